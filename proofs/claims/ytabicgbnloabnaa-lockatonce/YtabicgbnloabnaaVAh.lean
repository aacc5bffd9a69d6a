import Derived.Test.YtabicgbnloabnaaVJHa
import Derived.Deep.CutBlock
import Derived.Test.YtabicgbnloabnaaVPf
import Derived.Test.YtabicgbnloabnaaVFr
import Derived.Test.YtabicgbnloabnaaVRa
import Derived.Test.YtabicgbnloabnaaVJAd
namespace Go.Proofs.Ytabicgbnloabnaa
set_option maxRecDepth 100000
set_option linter.unusedSimpArgs false
open Go.RowKit
structure Ak where
 k:Int
 n:Int
def Ak.C (x:Ak):List Value:= [.int .i64 x.k,.int .i64 x.n]
theorem Ak.one (x:Ak):∀v∈x.C,v.oneCell'=true:=by
 intro v hv
 simp only [Ak.C,List.mem_cons,List.mem_nil_iff,or_false] at hv
 rcases hv with rfl | rfl <;> rfl
theorem zero57 (w:World):(Instr.alloc 57 true (.tuple #[])).run Try.prog w= .ok (P0 w.heap.size) (w.alloc (.cells (Ak.C ⟨0,0⟩).toArray 57)):=by kernel_rfl
theorem bnd55 (w:World) (b:Nat):(Instr.build 55 #[(0,P0 b)]).run Try.prog w= .ok (aggV (ndC b ze8 ze8)) w:=by kernel_rfl
section
variable {ops:Array Oper} {rest:List Oper} {op o:Oper} {a:Act} {w:World} {K:Act→World→Prop} {Q:Exit→Act→World→Prop}
theorem o_idx51 (x y:Operand) (ho:o.op= .indexAddr 51 x y) (ao:Option Addr) (c:Nat) (X:List Ak) (j:Nat) (m:Ak) (hx:a.eval x= .slice ao X.length c) (hy:a.eval y= .int .i64 j) (hI:RowS Ak.C 2 w ao X) (hm:X[j]?=some m) (h:∀g o',w.rangeAt g o' m.C→K (a.put o.dst (.pointer (some ⟨g,o',none⟩))) w):o.wp Try.prog a w K Q:=by
 obtain⟨g,off,rfl,hc⟩:=hI j m hm
 have hj:=(List.getElem?_eq_some_iff.1 hm).1
 have hjI:(j:Int)<X.length:=by omega
 unfold Oper.wp execOp
 simp only [ho,hx,hy]
 simp [go_sem,hj,hjI]
 exact h _ _ (fun i u hu=>hc i u hu)
theorem wpIdx51 (hgd:op.guard=none) (x y:Operand) (ho:op.op= .indexAddr 51 x y) (ao:Option Addr) (c:Nat) (X:List Ak) (j:Nat) (m:Ak) (hx:a.eval x= .slice ao X.length c) (hy:a.eval y= .int .i64 j) (hI:RowS Ak.C 2 w ao X) (hm:X[j]?=some m) (h:∀g o',w.rangeAt g o' m.C→wpList Try.prog ops Q rest (a.put op.dst (.pointer (some ⟨g,o',none⟩))) w):wpList Try.prog ops Q (op::rest) a w:=
 wpList_plain hgd fun _ hK=>o_idx51 x y ho ao c X j m hx hy hI hm (fun g o' hp=>hK _ _ (h g o' hp))
end
structure La (w W:World) (z b j:Nat) (m o:Nat→Int) (s:Lo) (ln:Value):Prop where
 nk:Nk j w W z b m o s [] ln
 jv:Jv s
 sy:Sy s m o
 h1:s.hk=0
 h2:s.hn=0
structure Lr (w W:World) (z b j:Nat) (m o:Nat→Int) (s:Lo) (ln:Value) (q:Nat) (x:Ak) (tv:Value) (T:List Od) (tg:Option (Nat×Int)) (k:Nat):Prop where
 nk:Nk j w W z b m o s [] ln
 qb:Blk W q 57 x.C
 tl:Ou w W tv T
 fl:Fl tg k s m o T
variable {w W W':World} {z b j:Nat} {m o:Nat→Int} {s:Lo} {ln:Value}
structure Lt (w W:World) (z b j:Nat) (m o:Nat→Int) (s:Lo) (ln:Value) (q:Nat) (x:Ak):Prop where
 la:La w W z b j m o s ln
 qb:Blk W q 57 x.C
 q0:w.heap.size≤q
def Dn (k:Int) (a:Nat) (m:Nat→Int):Prop:=(k=1→¬m a=0)∧(k=2→m a=2)
theorem La.step (h:La w W z b j m o s ln) (hk:Kept [] W W'):La w W' z b j m o s ln:=⟨h.nk.step hk,h.jv,h.sy,h.h1,h.h2⟩
theorem Lt.step {q:Nat} {x:Ak} (h:Lt w W z b j m o s ln q x) (hk:Kept [] W W'):Lt w W' z b j m o s ln q x:=⟨h.la.step hk,h.qb.kept hk (by simp),h.q0⟩
theorem cg20 (vs:Array Value) (w:World):(callFunc 20 vs).run Try.prog w= .ok (.enter 20 vs) w:=by kernel_rfl
theorem cg21 (vs:Array Value) (w:World):(callFunc 21 vs).run Try.prog w= .ok (.enter 21 vs) w:=by kernel_rfl
theorem cg22 (vs:Array Value) (w:World):(callFunc 22 vs).run Try.prog w= .ok (.enter 22 vs) w:=by kernel_rfl
def PA (A:Nat) (w:World) (z b q:Nat) (m o:Nat→Int) (s:Lo) (ln:Value) (x:Ak) (W:World):Prop:=Blk W q 57 x.C∧Nk A w W z b m o s [] ln
def RA (B:Nat) (w:World) (z b q:Nat) (m o:Nat→Int) (r:Lo×List Wi×List Od) (x:Ak) (W:World) (v:Value):Prop:=Blk W q 57 x.C∧∃ln',Ou w W v r.2.2∧Nk B w W z b m o r.1 r.2.1 ln'
theorem SG.qb {A B:Nat} {q:Nat} {x:Ak} {r:Lo×List Wi×List Od} {k1 k3:Nat} {d:Nat→Bool} {vs:Nat→Value} (h:SG (PA A w z b q m o s ln x) (RA B w z b q m o r x) k1 k3 d vs W):Blk W q 57 x.C∧Blk W z 55 (ndC b m o):=by
 cases hd:d k1 with
 | false=>exact ⟨(h.n1 hd).1,(h.n1 hd).2.zb⟩
 | true=>obtain ⟨h1,ln',_,h2⟩:=h.n2 hd;exact⟨h1,h2.zb⟩
theorem Nk.putQ {A q:Nat} {us:List Value} {m' o':Nat→Int} {L:List Wi} (h:Nk A w W z b m o s L ln) (hq:w.heap.size≤q) (hQ:Blk W q 57 us) (hk:Kept [z,q] W W') (hB:Blk W' z 55 (ndC b m' o')):Nk A w W' z b m' o' s L ln:=by
 refine⟨h.lb.kept hk ?_,h.lw.kept hk (fun k h1 h2=> ?_),h.gd,hB,h.b0,h.z0,h.l0,h.kept.fresh hk (fun i hi hl=> ?_)⟩
 · intro e
   simp at e
   rcases e with rfl | rfl
   · exact absurd (h.lb.two h.zb) (by decide)
   · exact absurd (h.lb.two hQ) (by decide)
 · simp only [List.mem_cons,List.mem_nil_iff,or_false] at h2
   rcases h2 with rfl | rfl
   · exact Rw.ne h.lw h.zb (by decide) k h1 (by simp)
   · exact Rw.ne h.lw hQ (by decide) k h1 (by simp)
 · simp only [List.mem_cons,List.mem_nil_iff,or_false] at hi
   rcases hi with rfl | rfl
   · exact absurd h.z0 (Nat.not_le.2 hl)
   · exact absurd hq (Nat.not_le.2 hl)
theorem Nk.farO {A:Nat} {L:List Wi} (h:Nk A w W z b m o s L ln) {e y n:Nat} {v:Value} {xs:List Value} (hR:Rw W e y v n xs) (h1:e≠75) (h2:e≠55) (h3:e≠41):∀k,v.ownBlock=some k→k∉z::b::spare ln:=by
 intro k hk hq
 simp only [List.mem_cons] at hq
 rcases hq with rfl | rfl | hq
 · exact Rw.ne hR h.zb (fun e=>h2 e.symm) k hk (by simp)
 · exact Rw.ne hR h.lb (fun e=>h1 e.symm) k hk (by simp)
 · obtain⟨cs,e1⟩:=hR.block k hk
   obtain⟨cs2,e2⟩:=Rw.block h.lw k (spare_own hq)
   rw [e1] at e2
   cases e2
   exact h3 rfl
theorem Nk.farB {A:Nat} {L:List Wi} (h:Nk A w W z b m o s L ln) {q T:Nat} {vs:List Value} (hB:Blk W q T vs) (h1:T≠75) (h2:T≠55) (h3:T≠41):q∉z::b::spare ln:=by
 intro hq
 rcases List.mem_cons.1 hq with rfl | hq
 · exact h2 (hB.two h.zb)
 · exact h.far hB h1 h3 hq
theorem Nk.rowO {A n:Nat} {L:List Wi} {v:Value} {xs:List Value} (h:Nk A w W z b m o s L ln) (hN:New w W 65 6 v n xs) (hk:Kept (spare v) W W'):Nk A w W' z b m o s L ln:=
 ⟨h.lb.kept hk (fun hb=>Rw.ne hN.row h.lb (by decide) b (spare_own hb) (by simp)),h.lw.kept hk (Rw.apart h.lw hN.row (by decide)),h.gd,h.zb.kept hk (fun hb=>Rw.ne hN.row h.zb (by decide) z (spare_own hb) (by simp)),h.b0,h.z0,h.l0,h.kept.fresh hk (fun i hi hl=>absurd (hN.spare i hi) (Nat.not_le.2 hl))⟩
theorem Os.rest1 {ao:Option Addr} {c n:Nat} {x:Od} {T:List Od} (h:Os W (.slice ao n c) (x::T)) (hn:n=T.length+1):Os W (restV 6 ao n c 1) T:=by
 subst hn
 have h9:=Rw.rest (n:=T.length+1) h 1 (by omega)
 exact h9
theorem wpRestO {ops:Array Oper} {rest:List Oper} {op:Oper} {a:Act} {Q:Exit→Act→World→Prop} (hgd:op.guard=none) (x:Operand) (ho:op.op= .slice 28 x (some (.const (.int .i64 1))) none none) (ao:Option Addr) (n c:Nat) (hn:n≤c) (hno:ao=none→n=0∧c=0) (hk:1≤n) (hx:a.eval x= .slice ao n c) (h:wpList Try.prog ops Q rest (a.put op.dst (restV 6 ao n c 1)) w):wpList Try.prog ops Q (op::rest) a w:=
 wpList_plain hgd fun _ hK=>o_rest1 (z:=6) (Or.inr ⟨rfl,rfl⟩) x ho ao n c hn hno hk hx (hK _ _ h)
section
variable {ops:Array Oper} {rest:List Oper} {op o:Oper} {a:Act} {K:Act→World→Prop} {Q:Exit→Act→World→Prop}
theorem wpLd24 (hgd:op.guard=none) (x:Operand) (ho:op.op= .load 24 x) (p:Addr) (v:Value) (hx:a.eval x= .pointer (some p)) (hc:w.cell? p=some v) (h:wpList Try.prog ops Q rest (a.put op.dst v) w):wpList Try.prog ops Q (op::rest) a w:=
 wpList_plain hgd fun _ hK=>o_load24 x ho p v hx hc (hK _ _ h)
theorem wpLd24W (hw:Region.wanted op (yielded ops a.tmps)=true) (x:Operand) (ho:op.op= .load 24 x) (p:Addr) (v:Value) (hx:a.eval x= .pointer (some p)) (hc:w.cell? p=some v) (h:wpList Try.prog ops Q rest (a.put op.dst v) w):wpList Try.prog ops Q (op::rest) a w:=
 BigFrame.wpList_want hw fun _ hK=>o_load24 x ho p v hx hc (hK _ _ h)
theorem fld43 (w:World) (B:Bo) (a1 a2 a3:Option Addr) (n1 n2 n3 c1 c2 c3:Nat):(Instr.field 43 (aggV (B.C (.slice a1 n1 c1) (.slice a2 n2 c2) (.slice a3 n3 c3))) 5).run Try.prog w= .ok (.slice a3 n3 c3) w:=by kernel_rfl
theorem o_fldB (x:Operand) (ho:o.op= .field 43 x 5) (B:Bo) (a1 a2 a3:Option Addr) (n1 n2 n3 c1 c2 c3:Nat) (hx:a.eval x=aggV (B.C (.slice a1 n1 c1) (.slice a2 n2 c2) (.slice a3 n3 c3))) (h:K (a.put o.dst (.slice a3 n3 c3)) w):o.wp Try.prog a w K Q:=by
 unfold Oper.wp execOp
 simp only [ho,hx]
 have e:=fld43 w B a1 a2 a3 n1 n2 n3 c1 c2 c3
 simp only [Sem.run_bind,e,Result.andThen_ok,Sem.run_pure]
 exact h
theorem wpFldBW (hw:Region.wanted op (yielded ops a.tmps)=true) (x:Operand) (ho:op.op= .field 43 x 5) (B:Bo) (a1 a2 a3:Option Addr) (n1 n2 n3 c1 c2 c3:Nat) (hx:a.eval x=aggV (B.C (.slice a1 n1 c1) (.slice a2 n2 c2) (.slice a3 n3 c3))) (h:wpList Try.prog ops Q rest (a.put op.dst (.slice a3 n3 c3)) w):wpList Try.prog ops Q (op::rest) a w:=
 BigFrame.wpList_want hw fun _ hK=>o_fldB x ho B a1 a2 a3 n1 n2 n3 c1 c2 c3 hx (hK _ _ h)
end
theorem La.new {W1 W2:World} (hb:b=w.heap.size) (hB:Blk W1 b 75 (lo0.C (.slice none 0 0))) (hK:Kept [] w W1) (hz:z=W1.heap.size) (hZ:Blk W2 z 55 (ndC b ze8 ze8)) (hK2:Kept [] W1 W2):La w W2 z b 0 ze8 ze8 lo0 (.slice none 0 0):=by
 have h1:=hK.size
 exact⟨⟨hB.kept hK2 (by simp),Rw.nil _,lo0_gd,hZ,by omega,by omega,(fun k hk=>by cases hk),hK.trans hK2⟩,lo0_jv,⟨fun i _=>rfl,fun i _ hh=>by cases hh⟩,rfl,rfl⟩
set_option maxHeartbeats 2000000 in
theorem once_a (ao:Option Addr) (c0:Nat) (X:List Ak) (w:World) (hl:decide ((100:Int)<(X.length:Int))=true):Calls Try.prog 4 #[.slice ao X.length c0] w fun x w'=>x= .returned (.bool true)∧Kept [] w w':=by
 go_enter Try.func4,Try.ntmps4
 go_wp2_with (first |(go_at_call 9;refine(known9 _).mono ?_;rintro e W99 ⟨rfl,K99⟩;refine Stp.go ?_))
 constructor
 go_wp2_with fail
 go_ret
 exact⟨rfl,K99⟩
set_option maxHeartbeats 16000000 in
theorem once_b (ao:Option Addr) (c0:Nat) (X:List Ak) (w:World) (hl:decide ((100:Int)<(X.length:Int))=false) (hX:RowS Ak.C 2 w ao X):Calls Try.prog 4 #[.slice ao X.length c0] w fun x w'=>x= .returned (.bool true)∧Kept [] w w':=by
 have HX:=hide hX
 have hlen:(X.length:Int)≤100:=by have:=of_decide_eq_false hl;omega
 clear hX
 go_enter Try.func4,Try.ntmps4
 go_wp2_with (first |(go_at_call 10;refine(new10 _).mono ?_;rintro e W1 ⟨b,rfl,hb1,hB1,K1⟩;have HN1:=hide (And.intro hb1 (And.intro hB1 K1));clear hb1 hB1 K1;refine Stp.go ?_))
 constructor
 go_wp2_with (first |(refine wpBuildP (by rfl) #[(0,.tmp 17)] (by rfl) #[(0,P0 b)] (by kernel_rfl) (ndC b ze8 ze8) (bnd55 _ b) ?_;refine Stp.go ?_))
 constructor
 go_wp2_with (first |(refine wpBoxV rfl (.tmp 18) rfl (ndC b ze8 ze8) rfl ?_;intro W2 z e2 B2 K2;have HS:=hide (La.new (unhide HN1).1 (unhide HN1).2.1 (unhide HN1).2.2 e2 B2 K2);clear HN1 e2 B2 K2;refine Stp.go ?_))
 constructor
 go_wp2_with fail
 go_loopw [4] (fun xi wr=>∃(j:Nat) (m o:Nat→Int) (s:Lo) (ln:Value),j≤X.length∧xi= .int .i64 j∧Hid (La w wr z b j m o s ln)) (fun i _=>X.length-(intOf i).toNat)
 case atStart=>exact ⟨0,_,_,_,_,by omega,rfl,HS⟩
 case round=>
   clear HS
   obtain⟨j,m,o,s,ln,hj,rfl,HS⟩:=hrel
   by_cases hlt:j<X.length
   · have hd:decide ((j:Int)<(X.length:Int))=true:=by simp;omega
     obtain⟨⟨kk,nn⟩,hak⟩:∃x,X[j]?=some x:=⟨_,List.getElem?_eq_getElem hlt⟩
     have HAK:=hide hak
     clear hak
     go_wp2_with (first |(refine wpIdx51 rfl (.tmp 26) (.tmp 27) rfl ao c0 X j ⟨kk,nn⟩ rfl rfl ((unhide HX).kept (unhide HS).nk.kept) (unhide HAK) ?_;intro g o9 HR9;refine Stp.go ?_))
     constructor
     go_wp2_with (first |(refine wpLoadA row57 rfl (.tmp 28) rfl g o9 rfl (⟨kk,nn⟩:Ak).C rfl HR9 ?_;clear HR9;refine Stp.go ?_))
     constructor
     go_wp2_with (first |(refine wpNew row57 (Ak.C ⟨0,0⟩) rfl zero57 5 rfl rfl rfl (.tmp 29) rfl rfl rfl (Ak.C ⟨kk,nn⟩) rfl (Ak.one _) (by kernel_rfl) (by kernel_rfl) ?_;intro W3 q e3 B3 K3;replace HS:Hid (Lt w W3 z b j m o s ln q ⟨kk,nn⟩):=hide ⟨(unhide HS).step K3,B3,by rw [e3];exact(unhide HS).nk.kept.size⟩;have c0':W3.cell? ⟨q,0,none⟩=some (.int .i64 kk):=fits_cell B3 0 _ rfl;have c1':W3.cell? ⟨q,1,none⟩=some (.int .i64 nn):=fits_cell B3 1 _ rfl;clear e3 B3 K3;refine Stp.go ?_))
     constructor
     by_cases hr1:nn<0
     · have d1:decide (nn<0)=true:=decide_eq_true hr1
       clear hr1
       have HS2:Hid (La w W3 z b (j+1) m o s ln):=⟨(unhide HS).la.nk.tight (by have:=(unhide HS).la.nk.gd.op1;simp at this;omega),(unhide HS).la.jv,(unhide HS).la.sy,(unhide HS).la.h1,(unhide HS).la.h2⟩
       go_wp2_with fail
       go_roundw
       case rel=>exact ⟨j+1,_,_,_,_,by omega,by go_num,HS2⟩
       case measure=>simp [intOf];omega
     have d1:decide (nn<0)=false:=decide_eq_false hr1
     by_cases hr2:nn≥8
     · have d2:decide (nn≥8)=true:=decide_eq_true hr2
       have d3:decide (8≤nn)=true:=decide_eq_true hr2
       clear hr1 hr2
       have HS2:Hid (La w W3 z b (j+1) m o s ln):=⟨(unhide HS).la.nk.tight (by have:=(unhide HS).la.nk.gd.op1;simp at this;omega),(unhide HS).la.jv,(unhide HS).la.sy,(unhide HS).la.h1,(unhide HS).la.h2⟩
       go_wp2_with fail
       go_roundw
       case rel=>exact ⟨j+1,_,_,_,_,by omega,by go_num,HS2⟩
       case measure=>simp [intOf];omega
     have d2:decide (nn≥8)=false:=decide_eq_false hr2
     have d3:decide (8≤nn)=false:=decide_eq_false hr2
     obtain⟨a,rfl⟩:∃a:Nat,nn=(a:Int):=⟨nn.toNat,by omega⟩
     have ha8:a<8:=by omega
     have haI:(a:Int)<8:=by omega
     have hj100:j≤100:=by omega
     clear hr1 hr2
     go_upto_block 2 with fail
     try simp only [Act.put,List.setIfInBounds_toArray,List.set_cons_succ,List.set_cons_zero]
     go_cut [6] from 20 to 215 (fun tv wc=>∃(m o:Nat→Int) (s:Lo) (ln:Value) (T:List Od) (tg:Option (Nat×Int)) (k:Nat),k≤10∧Hid (Lr w wc z b (j+1) m o s ln q ⟨kk,a⟩ tv T tg k)∧Hid (∀m',Tg tg m'→Dn kk a m'))
     case first=>
       as_aux_lemma=>
         by_cases h1:kk=1
         · subst h1
           cases hm:decide (m a=0) with
           | true=>
             have D0:=hide hm
             have HST:=hide (st_sh ha8 (unhide HS).la.h1 (unhide HS).la.h2 (unhide HS).la.jv (unhide HS).la.sy (of_decide_eq_true hm))
             clear hm
             go_wp2_with fail
             refine wp_region_any mixed (wpAny_tq 8 rfl (by kernel_rfl) [some (P0 z),some (.pointer (some ⟨q,1,none⟩)),some (.int .i64 a),some (P0 z),some (.pointer (some ⟨z,1,none⟩)),some (.pointer (some ⟨z,1+a,none⟩)),some (.int .i64 (m a)),some (.bool true)] rfl (by kernel_rfl) (by kernel_rfl) ?_ ?_)
             · intro i o' hi hsk ho a' w2 hout hin hk2
               replace hk2:Kept [] W3 w2:=⟨hk2.os,hk2.tape,hk2.output,hk2.size,hk2.block⟩
               match i,ho,hsk with
               | 0,ho,hsk=>
                 obtain rfl:=Oj9 ho
                 exact wp_move (.tmp 3) rfl _ ((hout 3 (by kernel_rfl)).trans rfl) (tE rfl)
               | 1,ho,hsk=>
                 obtain rfl:=Oj9 ho
                 exact o_fld57_1 (.tmp 5) rfl q (0) (1) rfl ((hout 5 (by kernel_rfl)).trans rfl) (tE rfl)
               | 2,ho,hsk=>
                 obtain rfl:=Oj9 ho
                 have e0:a'.eval (.tmp 43)= .pointer (some ⟨q,1,none⟩):=is_tq (hin 1 43 (by kernel_rfl) (by kernel_rfl)) rfl
                 exact o_load3 (.tmp 43) rfl _ _ e0 (fits_cell ((unhide HS).step hk2).qb 1 _ rfl) (tE rfl)
               | 3,ho,hsk=>
                 obtain rfl:=Oj9 ho
                 have e0:a'.eval (.tmp 42)=P0 z:=is_tq (hin 0 42 (by kernel_rfl) (by kernel_rfl)) rfl
                 exact o_nil (.tmp 42) rfl _ e0 (tE rfl)
               | 4,ho,hsk=>
                 obtain rfl:=Oj9 ho
                 have e0:a'.eval (.tmp 45)=P0 z:=is_tq (hin 3 45 (by kernel_rfl) (by kernel_rfl)) rfl
                 exact o_fld55_1 (.tmp 45) rfl z (0) (1) rfl e0 (tE rfl)
               | 5,ho,hsk=>
                 obtain rfl:=Oj9 ho
                 have e0:a'.eval (.tmp 46)= .pointer (some ⟨z,1,none⟩):=is_tq (hin 4 46 (by kernel_rfl) (by kernel_rfl)) rfl
                 have e1:a'.eval (.tmp 44)= .int .i64 a:=is_tq (hin 2 44 (by kernel_rfl) (by kernel_rfl)) rfl
                 exact o_idx53 (.tmp 46) (.tmp 44) rfl z (1) a (1+a) (by assumption) rfl e0 e1 (tE rfl)
               | 6,ho,hsk=>
                 obtain rfl:=Oj9 ho
                 have e0:a'.eval (.tmp 47)= .pointer (some ⟨z,1+a,none⟩):=is_tq (hin 5 47 (by kernel_rfl) (by kernel_rfl)) rfl
                 exact o_load31 (.tmp 47) rfl _ _ e0 (fits_cell ((unhide HS).step hk2).la.nk.zb (1+a) _ (nd_m _ _ _ a (by assumption))) (tE rfl)
               | 7,ho,hsk=>
                 obtain rfl:=Oj9 ho
                 have e0:a'.eval (.tmp 48)= .int .i64 (m a):=is_tq (hin 6 48 (by kernel_rfl) (by kernel_rfl)) rfl
                 exact c_eql31 (.tmp 48) (.const (.int .i64 (0))) rfl _ _ (true) (unhide D0) e0 rfl (tE rfl)
             intro w9 hk9
             replace hk9:Kept [] W3 w9:=⟨hk9.os,hk9.tape,hk9.output,hk9.size,hk9.block⟩
             simp only [valsQ,List.map_cons,List.map_nil,Option.getD_some,List.take_succ_cons,List.take_zero,putAll,Act.put,List.setIfInBounds_toArray,List.set_cons_succ,List.set_cons_zero]
             refine wpAny_done (by kernel_rfl) ?_ _
             replace HS:Hid (Lt w w9 z b j m o s ln q (⟨1,a⟩:Ak)):=hide ((unhide HS).step hk9)
             clear hk9 D0
             go_wp2_with fail
             have hP:PA j w z b q (m) o s ln (⟨1,a⟩:Ak) w9:=⟨(unhide HS).qb,(unhide HS).la.nk⟩
             have HP:=hide hP
             clear hP
             refine wp_region_any mixed (wpAny_gx 8 rfl (by kernel_rfl) [some (P0 z),some (P0 z),some (P0 z),some (P0 b),some (.pointer (some ⟨q,1,none⟩)),some (.int .i64 a),none,none] rfl (by kernel_rfl) (fun l vs W=>(SG (PA j w z b q (m) o s ln (⟨1,a⟩:Ak)) (RA (j+1) w z b q (m) o (wantP s [] (a:Int) 1) (⟨1,a⟩:Ak)) 6 7) (fun i=>l.getD i false) vs W) (⟨fun _=>⟨(unhide HP).1.drew,(unhide HP).2.step (Kept.refl [] _).drew⟩,(fun h=>by cases h),fun h=>by cases h⟩) ?_ ?_)
             · intro ix o' hi ho a' w2 l vs hls hlf hJ hout hin hdep hnot
               match ix,ho with
               | 0,ho=>
                 obtain rfl:=Oj9 ho
                 have e0:=hout 3 (by kernel_rfl)
                 replace e0:a'.eval (.tmp 3)=_:=e0.trans rfl
                 exact wp_move (.tmp 3) rfl _ e0 ⟨_,rfl,told_of rfl,keepG [6,7] SG.loc (by omega) (by decide) hJ⟩
               | 1,ho=>
                 obtain rfl:=Oj9 ho
                 have e0:a'.eval (.tmp 50)=P0 z:=by have h9:=hin 0 50 (by kernel_rfl) (by kernel_rfl);exact h9.1.trans (told_is _ h9.2 rfl)
                 exact o_nil (.tmp 50) rfl _ e0 ⟨_,rfl,told_of rfl,keepG [6,7] SG.loc (by omega) (by decide) hJ⟩
               | 2,ho=>
                 obtain rfl:=Oj9 ho
                 have e0:a'.eval (.tmp 51)=P0 z:=by have h9:=hin 1 51 (by kernel_rfl) (by kernel_rfl);exact h9.1.trans (told_is _ h9.2 rfl)
                 exact o_fld55_0 (.tmp 51) rfl z (0) (0) rfl e0 ⟨_,rfl,told_of rfl,keepG [6,7] SG.loc (by omega) (by decide) hJ⟩
               | 3,ho=>
                 obtain rfl:=Oj9 ho
                 have e0:a'.eval (.tmp 52)=P0 z:=by have h9:=hin 2 52 (by kernel_rfl) (by kernel_rfl);exact h9.1.trans (told_is _ h9.2 rfl)
                 exact o_load24 (.tmp 52) rfl _ _ e0 (fits_cell (SG.qb hJ).2 0 _ rfl) ⟨_,rfl,told_of rfl,keepG [6,7] SG.loc (by omega) (by decide) hJ⟩
               | 4,ho=>
                 obtain rfl:=Oj9 ho
                 have e0:=hout 5 (by kernel_rfl)
                 replace e0:a'.eval (.tmp 5)=_:=e0.trans rfl
                 exact o_fld57_1 (.tmp 5) rfl q (0) (1) rfl e0 ⟨_,rfl,told_of rfl,keepG [6,7] SG.loc (by omega) (by decide) hJ⟩
               | 5,ho=>
                 obtain rfl:=Oj9 ho
                 have e0:a'.eval (.tmp 54)= .pointer (some ⟨q,1,none⟩):=by have h9:=hin 4 54 (by kernel_rfl) (by kernel_rfl);exact h9.1.trans (told_is _ h9.2 rfl)
                 exact o_load3 (.tmp 54) rfl _ _ e0 (fits_cell (SG.qb hJ).1 1 _ rfl) ⟨_,rfl,told_of rfl,keepG [6,7] SG.loc (by omega) (by decide) hJ⟩
               | 6,ho=>
                 obtain rfl:=Oj9 ho
                 have e0:a'.eval (.tmp 53)=P0 b:=by have h9:=hin 3 53 (by kernel_rfl) (by kernel_rfl);exact h9.1.trans (told_is _ h9.2 rfl)
                 have e1:a'.eval (.tmp 55)= .int .i64 a:=by have h9:=hin 5 55 (by kernel_rfl) (by kernel_rfl);exact h9.1.trans (told_is _ h9.2 rfl)
                 have hP9:=hJ.n1 hlf
                 refine wp_callF 20 _ _ rfl #[P0 b,.int .i64 a,.int .i64 1] (by simp [e0,e1] <;> rfl) (cg20 _ _) ((Nk.call hP9.2 (by omega) (fun hs=>want20 s ln b [] a 1 _ hs) (want_gd hP9.2.gd)).mono ?_)
                 rintro e w3 ⟨v3,ln3,rfl,N3,hN3,K3⟩
                 exact⟨_,rfl,_,rfl,told_no rfl,nextG (by omega) (SG.call hJ (by decide) (hnot 7 (by kernel_rfl)) ⟨hP9.1.kept K3 (hP9.2.far hP9.1 (by decide) (by decide)),ln3,New.elder N3 hP9.2.kept.size,hN3⟩)⟩
               | 7,ho=>
                 obtain rfl:=Oj9 ho
                 have e0:a'.eval (.tmp 56)=vs 6:=(hin 6 56 (by kernel_rfl) (by kernel_rfl)).1
                 exact wp_assignV (.tmp 56) rfl _ e0 ⟨_,rfl,told_no rfl,nextG (by omega) (SG.as _ _ hJ (by decide) (hdep 6 (by kernel_rfl)))⟩
             intro l_ vs4 V9 hl hJ htold
             have t0:vs4 0=P0 z:=told_is _ (htold 0 (by decide)) rfl
             have t1:vs4 1=P0 z:=told_is _ (htold 1 (by decide)) rfl
             have t2:vs4 2=P0 z:=told_is _ (htold 2 (by decide)) rfl
             have t3:vs4 3=P0 b:=told_is _ (htold 3 (by decide)) rfl
             have t4:vs4 4= .pointer (some ⟨q,1,none⟩):=told_is _ (htold 4 (by decide)) rfl
             have t5:vs4 5= .int .i64 a:=told_is _ (htold 5 (by decide)) rfl
             rw [show (List.range 8).map vs4= [vs4 0,vs4 1,vs4 2,vs4 3,vs4 4,vs4 5,vs4 6,vs4 7] from rfl]
             simp only [t0,t1,t2,t3,t4,t5,putAll,Act.put,List.setIfInBounds_toArray,List.set_cons_succ,List.set_cons_zero]
             clear t0 t1 t2 t3 t4 t5 htold
             obtain⟨hQ9,ln9,hO9,hN9⟩:=hJ.n2 (hl 6 (by decide))
             obtain⟨_,e9⟩:=hJ.a1 (hl 7 (by decide))
             rw [e9]
             generalize vs4 6=v9 at hO9⊢
             obtain⟨r9,hr9⟩:∃r,r=wantP s [] (a:Int) 1:=⟨_,rfl⟩
             rw [← hr9] at hO9 hN9
             have HST9:_:=unhide HST
             rw [← hr9] at HST9
             clear hr9
             have HL9:Hid (Lr w V9 z b (j+1) (m) o r9.1 ln9 q (⟨1,a⟩:Ak) v9 r9.2.2 (some (a,1)) 1):=hide ⟨by rw [HST9.1] at hN9;exact hN9,hQ9,hO9,HST9.2.2⟩
             clear HST9 HST e9 hJ hl HP hQ9 hO9 hN9
             go_wp2_with fail
             go_meet
             case rel=>exact ⟨_,_,_,_,_,_,_,by omega,HL9,hide (fun m9 h9=>⟨fun _=>by rw [h9 a 1 rfl];decide,fun h=>absurd h (by decide)⟩)⟩
           | false=>
             have D0:=hide hm
             have HM:=hide (of_decide_eq_false hm)
             clear hm
             go_wp2_with fail
             refine wp_region_any mixed (wpAny_tq 8 rfl (by kernel_rfl) [some (P0 z),some (.pointer (some ⟨q,1,none⟩)),some (.int .i64 a),some (P0 z),some (.pointer (some ⟨z,1,none⟩)),some (.pointer (some ⟨z,1+a,none⟩)),some (.int .i64 (m a)),some (.bool false)] rfl (by kernel_rfl) (by kernel_rfl) ?_ ?_)
             · intro i o' hi hsk ho a' w2 hout hin hk2
               replace hk2:Kept [] W3 w2:=⟨hk2.os,hk2.tape,hk2.output,hk2.size,hk2.block⟩
               match i,ho,hsk with
               | 0,ho,hsk=>
                 obtain rfl:=Oj9 ho
                 exact wp_move (.tmp 3) rfl _ ((hout 3 (by kernel_rfl)).trans rfl) (tE rfl)
               | 1,ho,hsk=>
                 obtain rfl:=Oj9 ho
                 exact o_fld57_1 (.tmp 5) rfl q (0) (1) rfl ((hout 5 (by kernel_rfl)).trans rfl) (tE rfl)
               | 2,ho,hsk=>
                 obtain rfl:=Oj9 ho
                 have e0:a'.eval (.tmp 43)= .pointer (some ⟨q,1,none⟩):=is_tq (hin 1 43 (by kernel_rfl) (by kernel_rfl)) rfl
                 exact o_load3 (.tmp 43) rfl _ _ e0 (fits_cell ((unhide HS).step hk2).qb 1 _ rfl) (tE rfl)
               | 3,ho,hsk=>
                 obtain rfl:=Oj9 ho
                 have e0:a'.eval (.tmp 42)=P0 z:=is_tq (hin 0 42 (by kernel_rfl) (by kernel_rfl)) rfl
                 exact o_nil (.tmp 42) rfl _ e0 (tE rfl)
               | 4,ho,hsk=>
                 obtain rfl:=Oj9 ho
                 have e0:a'.eval (.tmp 45)=P0 z:=is_tq (hin 3 45 (by kernel_rfl) (by kernel_rfl)) rfl
                 exact o_fld55_1 (.tmp 45) rfl z (0) (1) rfl e0 (tE rfl)
               | 5,ho,hsk=>
                 obtain rfl:=Oj9 ho
                 have e0:a'.eval (.tmp 46)= .pointer (some ⟨z,1,none⟩):=is_tq (hin 4 46 (by kernel_rfl) (by kernel_rfl)) rfl
                 have e1:a'.eval (.tmp 44)= .int .i64 a:=is_tq (hin 2 44 (by kernel_rfl) (by kernel_rfl)) rfl
                 exact o_idx53 (.tmp 46) (.tmp 44) rfl z (1) a (1+a) (by assumption) rfl e0 e1 (tE rfl)
               | 6,ho,hsk=>
                 obtain rfl:=Oj9 ho
                 have e0:a'.eval (.tmp 47)= .pointer (some ⟨z,1+a,none⟩):=is_tq (hin 5 47 (by kernel_rfl) (by kernel_rfl)) rfl
                 exact o_load31 (.tmp 47) rfl _ _ e0 (fits_cell ((unhide HS).step hk2).la.nk.zb (1+a) _ (nd_m _ _ _ a (by assumption))) (tE rfl)
               | 7,ho,hsk=>
                 obtain rfl:=Oj9 ho
                 have e0:a'.eval (.tmp 48)= .int .i64 (m a):=is_tq (hin 6 48 (by kernel_rfl) (by kernel_rfl)) rfl
                 exact c_eql31 (.tmp 48) (.const (.int .i64 (0))) rfl _ _ (false) (unhide D0) e0 rfl (tE rfl)
             intro w9 hk9
             replace hk9:Kept [] W3 w9:=⟨hk9.os,hk9.tape,hk9.output,hk9.size,hk9.block⟩
             simp only [valsQ,List.map_cons,List.map_nil,Option.getD_some,List.take_succ_cons,List.take_zero,putAll,Act.put,List.setIfInBounds_toArray,List.set_cons_succ,List.set_cons_zero]
             refine wpAny_done (by kernel_rfl) ?_ _
             replace HS:Hid (Lt w w9 z b j m o s ln q (⟨1,a⟩:Ak)):=hide ((unhide HS).step hk9)
             clear hk9 D0
             go_wp2_with fail
             go_meet
             case rel=>exact ⟨m,o,s,ln,[],some (a,m a),0,by omega,hide ⟨(unhide HS).la.nk.tight (by have:=(unhide HS).la.nk.gd.op1;simp at this;omega),(unhide HS).qb,New.nil _ _ _ _,st_none (unhide HS).la.h1 (unhide HS).la.h2 (unhide HS).la.jv (unhide HS).la.sy (fun a9 v9 h9=>by cases h9;rfl)⟩,hide (fun m9 h9=>⟨fun _=>by rw [h9 a _ rfl];exact unhide HM,fun h=>absurd h (by decide)⟩)⟩
         · by_cases h2:kk=2
           · subst h2
             clear h1
             cases hm:decide (m a=2) with
             | false=>
               have D0:=hide hm
               have HST:=hide (st_ex ha8 (unhide HS).la.h1 (unhide HS).la.h2 (unhide HS).la.jv (unhide HS).la.sy (of_decide_eq_false hm))
               clear hm
               go_wp2_with fail
               refine wp_region_any mixed (wpAny_tq 8 rfl (by kernel_rfl) [some (P0 z),some (.pointer (some ⟨q,1,none⟩)),some (.int .i64 a),some (P0 z),some (.pointer (some ⟨z,1,none⟩)),some (.pointer (some ⟨z,1+a,none⟩)),some (.int .i64 (m a)),some (.bool true)] rfl (by kernel_rfl) (by kernel_rfl) ?_ ?_)
               · intro i o' hi hsk ho a' w2 hout hin hk2
                 replace hk2:Kept [] W3 w2:=⟨hk2.os,hk2.tape,hk2.output,hk2.size,hk2.block⟩
                 match i,ho,hsk with
                 | 0,ho,hsk=>
                   obtain rfl:=Oj9 ho
                   exact wp_move (.tmp 3) rfl _ ((hout 3 (by kernel_rfl)).trans rfl) (tE rfl)
                 | 1,ho,hsk=>
                   obtain rfl:=Oj9 ho
                   exact o_fld57_1 (.tmp 5) rfl q (0) (1) rfl ((hout 5 (by kernel_rfl)).trans rfl) (tE rfl)
                 | 2,ho,hsk=>
                   obtain rfl:=Oj9 ho
                   have e0:a'.eval (.tmp 60)= .pointer (some ⟨q,1,none⟩):=is_tq (hin 1 60 (by kernel_rfl) (by kernel_rfl)) rfl
                   exact o_load3 (.tmp 60) rfl _ _ e0 (fits_cell ((unhide HS).step hk2).qb 1 _ rfl) (tE rfl)
                 | 3,ho,hsk=>
                   obtain rfl:=Oj9 ho
                   have e0:a'.eval (.tmp 59)=P0 z:=is_tq (hin 0 59 (by kernel_rfl) (by kernel_rfl)) rfl
                   exact o_nil (.tmp 59) rfl _ e0 (tE rfl)
                 | 4,ho,hsk=>
                   obtain rfl:=Oj9 ho
                   have e0:a'.eval (.tmp 62)=P0 z:=is_tq (hin 3 62 (by kernel_rfl) (by kernel_rfl)) rfl
                   exact o_fld55_1 (.tmp 62) rfl z (0) (1) rfl e0 (tE rfl)
                 | 5,ho,hsk=>
                   obtain rfl:=Oj9 ho
                   have e0:a'.eval (.tmp 63)= .pointer (some ⟨z,1,none⟩):=is_tq (hin 4 63 (by kernel_rfl) (by kernel_rfl)) rfl
                   have e1:a'.eval (.tmp 61)= .int .i64 a:=is_tq (hin 2 61 (by kernel_rfl) (by kernel_rfl)) rfl
                   exact o_idx53 (.tmp 63) (.tmp 61) rfl z (1) a (1+a) (by assumption) rfl e0 e1 (tE rfl)
                 | 6,ho,hsk=>
                   obtain rfl:=Oj9 ho
                   have e0:a'.eval (.tmp 64)= .pointer (some ⟨z,1+a,none⟩):=is_tq (hin 5 64 (by kernel_rfl) (by kernel_rfl)) rfl
                   exact o_load31 (.tmp 64) rfl _ _ e0 (fits_cell ((unhide HS).step hk2).la.nk.zb (1+a) _ (nd_m _ _ _ a (by assumption))) (tE rfl)
                 | 7,ho,hsk=>
                   obtain rfl:=Oj9 ho
                   have e0:a'.eval (.tmp 65)= .int .i64 (m a):=is_tq (hin 6 65 (by kernel_rfl) (by kernel_rfl)) rfl
                   exact c_neq31 (.tmp 65) (.const (.int .i64 (2))) rfl _ _ (false) (unhide D0) e0 rfl (tE rfl)
               intro w9 hk9
               replace hk9:Kept [] W3 w9:=⟨hk9.os,hk9.tape,hk9.output,hk9.size,hk9.block⟩
               simp only [valsQ,List.map_cons,List.map_nil,Option.getD_some,List.take_succ_cons,List.take_zero,putAll,Act.put,List.setIfInBounds_toArray,List.set_cons_succ,List.set_cons_zero]
               refine wpAny_done (by kernel_rfl) ?_ _
               replace HS:Hid (Lt w w9 z b j m o s ln q (⟨2,a⟩:Ak)):=hide ((unhide HS).step hk9)
               clear hk9 D0
               go_wp2_with fail
               have hP:PA j w z b q (m) o s ln (⟨2,a⟩:Ak) w9:=⟨(unhide HS).qb,(unhide HS).la.nk⟩
               have HP:=hide hP
               clear hP
               refine wp_region_any mixed (wpAny_gx 8 rfl (by kernel_rfl) [some (P0 z),some (P0 z),some (P0 z),some (P0 b),some (.pointer (some ⟨q,1,none⟩)),some (.int .i64 a),none,none] rfl (by kernel_rfl) (fun l vs W=>(SG (PA j w z b q (m) o s ln (⟨2,a⟩:Ak)) (RA (j+1) w z b q (m) o (wantP s [] (a:Int) 2) (⟨2,a⟩:Ak)) 6 7) (fun i=>l.getD i false) vs W) (⟨fun _=>⟨(unhide HP).1.drew,(unhide HP).2.step (Kept.refl [] _).drew⟩,(fun h=>by cases h),fun h=>by cases h⟩) ?_ ?_)
               · intro ix o' hi ho a' w2 l vs hls hlf hJ hout hin hdep hnot
                 match ix,ho with
                 | 0,ho=>
                   obtain rfl:=Oj9 ho
                   have e0:=hout 3 (by kernel_rfl)
                   replace e0:a'.eval (.tmp 3)=_:=e0.trans rfl
                   exact wp_move (.tmp 3) rfl _ e0 ⟨_,rfl,told_of rfl,keepG [6,7] SG.loc (by omega) (by decide) hJ⟩
                 | 1,ho=>
                   obtain rfl:=Oj9 ho
                   have e0:a'.eval (.tmp 67)=P0 z:=by have h9:=hin 0 67 (by kernel_rfl) (by kernel_rfl);exact h9.1.trans (told_is _ h9.2 rfl)
                   exact o_nil (.tmp 67) rfl _ e0 ⟨_,rfl,told_of rfl,keepG [6,7] SG.loc (by omega) (by decide) hJ⟩
                 | 2,ho=>
                   obtain rfl:=Oj9 ho
                   have e0:a'.eval (.tmp 68)=P0 z:=by have h9:=hin 1 68 (by kernel_rfl) (by kernel_rfl);exact h9.1.trans (told_is _ h9.2 rfl)
                   exact o_fld55_0 (.tmp 68) rfl z (0) (0) rfl e0 ⟨_,rfl,told_of rfl,keepG [6,7] SG.loc (by omega) (by decide) hJ⟩
                 | 3,ho=>
                   obtain rfl:=Oj9 ho
                   have e0:a'.eval (.tmp 69)=P0 z:=by have h9:=hin 2 69 (by kernel_rfl) (by kernel_rfl);exact h9.1.trans (told_is _ h9.2 rfl)
                   exact o_load24 (.tmp 69) rfl _ _ e0 (fits_cell (SG.qb hJ).2 0 _ rfl) ⟨_,rfl,told_of rfl,keepG [6,7] SG.loc (by omega) (by decide) hJ⟩
                 | 4,ho=>
                   obtain rfl:=Oj9 ho
                   have e0:=hout 5 (by kernel_rfl)
                   replace e0:a'.eval (.tmp 5)=_:=e0.trans rfl
                   exact o_fld57_1 (.tmp 5) rfl q (0) (1) rfl e0 ⟨_,rfl,told_of rfl,keepG [6,7] SG.loc (by omega) (by decide) hJ⟩
                 | 5,ho=>
                   obtain rfl:=Oj9 ho
                   have e0:a'.eval (.tmp 71)= .pointer (some ⟨q,1,none⟩):=by have h9:=hin 4 71 (by kernel_rfl) (by kernel_rfl);exact h9.1.trans (told_is _ h9.2 rfl)
                   exact o_load3 (.tmp 71) rfl _ _ e0 (fits_cell (SG.qb hJ).1 1 _ rfl) ⟨_,rfl,told_of rfl,keepG [6,7] SG.loc (by omega) (by decide) hJ⟩
                 | 6,ho=>
                   obtain rfl:=Oj9 ho
                   have e0:a'.eval (.tmp 70)=P0 b:=by have h9:=hin 3 70 (by kernel_rfl) (by kernel_rfl);exact h9.1.trans (told_is _ h9.2 rfl)
                   have e1:a'.eval (.tmp 72)= .int .i64 a:=by have h9:=hin 5 72 (by kernel_rfl) (by kernel_rfl);exact h9.1.trans (told_is _ h9.2 rfl)
                   have hP9:=hJ.n1 hlf
                   refine wp_callF 20 _ _ rfl #[P0 b,.int .i64 a,.int .i64 2] (by simp [e0,e1] <;> rfl) (cg20 _ _) ((Nk.call hP9.2 (by omega) (fun hs=>want20 s ln b [] a 2 _ hs) (want_gd hP9.2.gd)).mono ?_)
                   rintro e w3 ⟨v3,ln3,rfl,N3,hN3,K3⟩
                   exact⟨_,rfl,_,rfl,told_no rfl,nextG (by omega) (SG.call hJ (by decide) (hnot 7 (by kernel_rfl)) ⟨hP9.1.kept K3 (hP9.2.far hP9.1 (by decide) (by decide)),ln3,New.elder N3 hP9.2.kept.size,hN3⟩)⟩
                 | 7,ho=>
                   obtain rfl:=Oj9 ho
                   have e0:a'.eval (.tmp 73)=vs 6:=(hin 6 73 (by kernel_rfl) (by kernel_rfl)).1
                   exact wp_assignV (.tmp 73) rfl _ e0 ⟨_,rfl,told_no rfl,nextG (by omega) (SG.as _ _ hJ (by decide) (hdep 6 (by kernel_rfl)))⟩
               intro l_ vs4 V9 hl hJ htold
               have t0:vs4 0=P0 z:=told_is _ (htold 0 (by decide)) rfl
               have t1:vs4 1=P0 z:=told_is _ (htold 1 (by decide)) rfl
               have t2:vs4 2=P0 z:=told_is _ (htold 2 (by decide)) rfl
               have t3:vs4 3=P0 b:=told_is _ (htold 3 (by decide)) rfl
               have t4:vs4 4= .pointer (some ⟨q,1,none⟩):=told_is _ (htold 4 (by decide)) rfl
               have t5:vs4 5= .int .i64 a:=told_is _ (htold 5 (by decide)) rfl
               rw [show (List.range 8).map vs4= [vs4 0,vs4 1,vs4 2,vs4 3,vs4 4,vs4 5,vs4 6,vs4 7] from rfl]
               simp only [t0,t1,t2,t3,t4,t5,putAll,Act.put,List.setIfInBounds_toArray,List.set_cons_succ,List.set_cons_zero]
               clear t0 t1 t2 t3 t4 t5 htold
               obtain⟨hQ9,ln9,hO9,hN9⟩:=hJ.n2 (hl 6 (by decide))
               obtain⟨_,e9⟩:=hJ.a1 (hl 7 (by decide))
               rw [e9]
               generalize vs4 6=v9 at hO9⊢
               obtain⟨r9,hr9⟩:∃r,r=wantP s [] (a:Int) 2:=⟨_,rfl⟩
               rw [← hr9] at hO9 hN9
               have HST9:_:=unhide HST
               rw [← hr9] at HST9
               clear hr9
               have HL9:Hid (Lr w V9 z b (j+1) (m) o r9.1 ln9 q (⟨2,a⟩:Ak) v9 r9.2.2 (some (a,2)) 9):=hide ⟨by rw [HST9.1] at hN9;exact hN9,hQ9,hO9,HST9.2.2⟩
               clear HST9 HST e9 hJ hl HP hQ9 hO9 hN9
               go_wp2_with fail
               go_meet
               case rel=>exact ⟨_,_,_,_,_,_,_,by omega,HL9,hide (fun m9 h9=>⟨fun h=>absurd h (by decide),fun _=>h9 a 2 rfl⟩)⟩
             | true=>
               have D0:=hide hm
               have HM:=hide (of_decide_eq_true hm)
               clear hm
               go_wp2_with fail
               refine wp_region_any mixed (wpAny_tq 8 rfl (by kernel_rfl) [some (P0 z),some (.pointer (some ⟨q,1,none⟩)),some (.int .i64 a),some (P0 z),some (.pointer (some ⟨z,1,none⟩)),some (.pointer (some ⟨z,1+a,none⟩)),some (.int .i64 (m a)),some (.bool false)] rfl (by kernel_rfl) (by kernel_rfl) ?_ ?_)
               · intro i o' hi hsk ho a' w2 hout hin hk2
                 replace hk2:Kept [] W3 w2:=⟨hk2.os,hk2.tape,hk2.output,hk2.size,hk2.block⟩
                 match i,ho,hsk with
                 | 0,ho,hsk=>
                   obtain rfl:=Oj9 ho
                   exact wp_move (.tmp 3) rfl _ ((hout 3 (by kernel_rfl)).trans rfl) (tE rfl)
                 | 1,ho,hsk=>
                   obtain rfl:=Oj9 ho
                   exact o_fld57_1 (.tmp 5) rfl q (0) (1) rfl ((hout 5 (by kernel_rfl)).trans rfl) (tE rfl)
                 | 2,ho,hsk=>
                   obtain rfl:=Oj9 ho
                   have e0:a'.eval (.tmp 60)= .pointer (some ⟨q,1,none⟩):=is_tq (hin 1 60 (by kernel_rfl) (by kernel_rfl)) rfl
                   exact o_load3 (.tmp 60) rfl _ _ e0 (fits_cell ((unhide HS).step hk2).qb 1 _ rfl) (tE rfl)
                 | 3,ho,hsk=>
                   obtain rfl:=Oj9 ho
                   have e0:a'.eval (.tmp 59)=P0 z:=is_tq (hin 0 59 (by kernel_rfl) (by kernel_rfl)) rfl
                   exact o_nil (.tmp 59) rfl _ e0 (tE rfl)
                 | 4,ho,hsk=>
                   obtain rfl:=Oj9 ho
                   have e0:a'.eval (.tmp 62)=P0 z:=is_tq (hin 3 62 (by kernel_rfl) (by kernel_rfl)) rfl
                   exact o_fld55_1 (.tmp 62) rfl z (0) (1) rfl e0 (tE rfl)
                 | 5,ho,hsk=>
                   obtain rfl:=Oj9 ho
                   have e0:a'.eval (.tmp 63)= .pointer (some ⟨z,1,none⟩):=is_tq (hin 4 63 (by kernel_rfl) (by kernel_rfl)) rfl
                   have e1:a'.eval (.tmp 61)= .int .i64 a:=is_tq (hin 2 61 (by kernel_rfl) (by kernel_rfl)) rfl
                   exact o_idx53 (.tmp 63) (.tmp 61) rfl z (1) a (1+a) (by assumption) rfl e0 e1 (tE rfl)
                 | 6,ho,hsk=>
                   obtain rfl:=Oj9 ho
                   have e0:a'.eval (.tmp 64)= .pointer (some ⟨z,1+a,none⟩):=is_tq (hin 5 64 (by kernel_rfl) (by kernel_rfl)) rfl
                   exact o_load31 (.tmp 64) rfl _ _ e0 (fits_cell ((unhide HS).step hk2).la.nk.zb (1+a) _ (nd_m _ _ _ a (by assumption))) (tE rfl)
                 | 7,ho,hsk=>
                   obtain rfl:=Oj9 ho
                   have e0:a'.eval (.tmp 65)= .int .i64 (m a):=is_tq (hin 6 65 (by kernel_rfl) (by kernel_rfl)) rfl
                   exact c_neq31 (.tmp 65) (.const (.int .i64 (2))) rfl _ _ (true) (unhide D0) e0 rfl (tE rfl)
               intro w9 hk9
               replace hk9:Kept [] W3 w9:=⟨hk9.os,hk9.tape,hk9.output,hk9.size,hk9.block⟩
               simp only [valsQ,List.map_cons,List.map_nil,Option.getD_some,List.take_succ_cons,List.take_zero,putAll,Act.put,List.setIfInBounds_toArray,List.set_cons_succ,List.set_cons_zero]
               refine wpAny_done (by kernel_rfl) ?_ _
               replace HS:Hid (Lt w w9 z b j m o s ln q (⟨2,a⟩:Ak)):=hide ((unhide HS).step hk9)
               clear hk9 D0
               go_wp2_with fail
               go_meet
               case rel=>exact ⟨m,o,s,ln,[],some (a,m a),0,by omega,hide ⟨(unhide HS).la.nk.tight (by have:=(unhide HS).la.nk.gd.op1;simp at this;omega),(unhide HS).qb,New.nil _ _ _ _,st_none (unhide HS).la.h1 (unhide HS).la.h2 (unhide HS).la.jv (unhide HS).la.sy (fun a9 v9 h9=>by cases h9;rfl)⟩,hide (fun m9 h9=>⟨fun h=>absurd h (by decide),fun _=>by rw [h9 a _ rfl];exact unhide HM⟩)⟩
           · by_cases h3:kk=3
             · subst h3
               clear h1 h2
               have HST:=hide (st_cl ha8 (unhide HS).la.h1 (unhide HS).la.h2 (unhide HS).la.jv (unhide HS).la.sy)
               go_wp2_with fail
               have hP:PA j w z b q (m) o s ln (⟨3,a⟩:Ak) W3:=⟨(unhide HS).qb,(unhide HS).la.nk⟩
               have HP:=hide hP
               clear hP
               refine wp_region_any mixed (wpAny_gx 8 rfl (by kernel_rfl) [some (P0 z),some (P0 z),some (P0 z),some (P0 b),some (.pointer (some ⟨q,1,none⟩)),some (.int .i64 a),none,none] rfl (by kernel_rfl) (fun l vs W=>(SG (PA j w z b q (m) o s ln (⟨3,a⟩:Ak)) (RA (j+1) w z b q (m) o (askI s [] (a:Int) 3) (⟨3,a⟩:Ak)) 6 7) (fun i=>l.getD i false) vs W) (⟨fun _=>⟨(unhide HP).1.drew,(unhide HP).2.step (Kept.refl [] _).drew⟩,(fun h=>by cases h),fun h=>by cases h⟩) ?_ ?_)
               · intro ix o' hi ho a' w2 l vs hls hlf hJ hout hin hdep hnot
                 match ix,ho with
                 | 0,ho=>
                   obtain rfl:=Oj9 ho
                   have e0:=hout 3 (by kernel_rfl)
                   replace e0:a'.eval (.tmp 3)=_:=e0.trans rfl
                   exact wp_move (.tmp 3) rfl _ e0 ⟨_,rfl,told_of rfl,keepG [6,7] SG.loc (by omega) (by decide) hJ⟩
                 | 1,ho=>
                   obtain rfl:=Oj9 ho
                   have e0:a'.eval (.tmp 76)=P0 z:=by have h9:=hin 0 76 (by kernel_rfl) (by kernel_rfl);exact h9.1.trans (told_is _ h9.2 rfl)
                   exact o_nil (.tmp 76) rfl _ e0 ⟨_,rfl,told_of rfl,keepG [6,7] SG.loc (by omega) (by decide) hJ⟩
                 | 2,ho=>
                   obtain rfl:=Oj9 ho
                   have e0:a'.eval (.tmp 77)=P0 z:=by have h9:=hin 1 77 (by kernel_rfl) (by kernel_rfl);exact h9.1.trans (told_is _ h9.2 rfl)
                   exact o_fld55_0 (.tmp 77) rfl z (0) (0) rfl e0 ⟨_,rfl,told_of rfl,keepG [6,7] SG.loc (by omega) (by decide) hJ⟩
                 | 3,ho=>
                   obtain rfl:=Oj9 ho
                   have e0:a'.eval (.tmp 78)=P0 z:=by have h9:=hin 2 78 (by kernel_rfl) (by kernel_rfl);exact h9.1.trans (told_is _ h9.2 rfl)
                   exact o_load24 (.tmp 78) rfl _ _ e0 (fits_cell (SG.qb hJ).2 0 _ rfl) ⟨_,rfl,told_of rfl,keepG [6,7] SG.loc (by omega) (by decide) hJ⟩
                 | 4,ho=>
                   obtain rfl:=Oj9 ho
                   have e0:=hout 5 (by kernel_rfl)
                   replace e0:a'.eval (.tmp 5)=_:=e0.trans rfl
                   exact o_fld57_1 (.tmp 5) rfl q (0) (1) rfl e0 ⟨_,rfl,told_of rfl,keepG [6,7] SG.loc (by omega) (by decide) hJ⟩
                 | 5,ho=>
                   obtain rfl:=Oj9 ho
                   have e0:a'.eval (.tmp 80)= .pointer (some ⟨q,1,none⟩):=by have h9:=hin 4 80 (by kernel_rfl) (by kernel_rfl);exact h9.1.trans (told_is _ h9.2 rfl)
                   exact o_load3 (.tmp 80) rfl _ _ e0 (fits_cell (SG.qb hJ).1 1 _ rfl) ⟨_,rfl,told_of rfl,keepG [6,7] SG.loc (by omega) (by decide) hJ⟩
                 | 6,ho=>
                   obtain rfl:=Oj9 ho
                   have e0:a'.eval (.tmp 79)=P0 b:=by have h9:=hin 3 79 (by kernel_rfl) (by kernel_rfl);exact h9.1.trans (told_is _ h9.2 rfl)
                   have e1:a'.eval (.tmp 81)= .int .i64 a:=by have h9:=hin 5 81 (by kernel_rfl) (by kernel_rfl);exact h9.1.trans (told_is _ h9.2 rfl)
                   have hP9:=hJ.n1 hlf
                   refine wp_callF 21 _ _ rfl #[P0 b,.int .i64 a] (by simp [e0,e1] <;> rfl) (cg21 _ _) ((Nk.call hP9.2 (by omega) (fun hs=>clean21 s ln b [] a _ hs) (askI_gd hP9.2.gd (.inr (.inr rfl)))).mono ?_)
                   rintro e w3 ⟨v3,ln3,rfl,N3,hN3,K3⟩
                   exact⟨_,rfl,_,rfl,told_no rfl,nextG (by omega) (SG.call hJ (by decide) (hnot 7 (by kernel_rfl)) ⟨hP9.1.kept K3 (hP9.2.far hP9.1 (by decide) (by decide)),ln3,New.elder N3 hP9.2.kept.size,hN3⟩)⟩
                 | 7,ho=>
                   obtain rfl:=Oj9 ho
                   have e0:a'.eval (.tmp 82)=vs 6:=(hin 6 82 (by kernel_rfl) (by kernel_rfl)).1
                   exact wp_assignV (.tmp 82) rfl _ e0 ⟨_,rfl,told_no rfl,nextG (by omega) (SG.as _ _ hJ (by decide) (hdep 6 (by kernel_rfl)))⟩
               intro l_ vs4 V9 hl hJ htold
               have t0:vs4 0=P0 z:=told_is _ (htold 0 (by decide)) rfl
               have t1:vs4 1=P0 z:=told_is _ (htold 1 (by decide)) rfl
               have t2:vs4 2=P0 z:=told_is _ (htold 2 (by decide)) rfl
               have t3:vs4 3=P0 b:=told_is _ (htold 3 (by decide)) rfl
               have t4:vs4 4= .pointer (some ⟨q,1,none⟩):=told_is _ (htold 4 (by decide)) rfl
               have t5:vs4 5= .int .i64 a:=told_is _ (htold 5 (by decide)) rfl
               rw [show (List.range 8).map vs4= [vs4 0,vs4 1,vs4 2,vs4 3,vs4 4,vs4 5,vs4 6,vs4 7] from rfl]
               simp only [t0,t1,t2,t3,t4,t5,putAll,Act.put,List.setIfInBounds_toArray,List.set_cons_succ,List.set_cons_zero]
               clear t0 t1 t2 t3 t4 t5 htold
               obtain⟨hQ9,ln9,hO9,hN9⟩:=hJ.n2 (hl 6 (by decide))
               obtain⟨_,e9⟩:=hJ.a1 (hl 7 (by decide))
               rw [e9]
               generalize vs4 6=v9 at hO9⊢
               obtain⟨r9,hr9⟩:∃r,r=askI s [] (a:Int) 3:=⟨_,rfl⟩
               rw [← hr9] at hO9 hN9
               have HST9:_:=unhide HST
               rw [← hr9] at HST9
               clear hr9
               have HL9:Hid (Lr w V9 z b (j+1) (m) o r9.1 ln9 q (⟨3,a⟩:Ak) v9 r9.2.2 none 10):=hide ⟨by rw [HST9.1] at hN9;exact hN9,hQ9,hO9,HST9.2.2⟩
               clear HST9 HST e9 hJ hl HP hQ9 hO9 hN9
               go_wp2_with fail
               go_meet
               case rel=>exact ⟨_,_,_,_,_,_,_,by omega,HL9,hide (fun m9 h9=>⟨fun h=>absurd h (by decide),fun h=>absurd h (by decide)⟩)⟩
             · by_cases h4:kk=4
               · subst h4
                 clear h1 h2 h3
                 cases hm:decide (m a=0) with
                 | false=>
                   have D0:=hide hm
                   have HST:=hide (st_rel (c:=o a) ha8 (unhide HS).la.h1 (unhide HS).la.h2 (unhide HS).la.jv (unhide HS).la.sy)
                   clear hm
                   go_wp2_with fail
                   refine wp_region_any mixed (wpAny_tq 8 rfl (by kernel_rfl) [some (P0 z),some (.pointer (some ⟨q,1,none⟩)),some (.int .i64 a),some (P0 z),some (.pointer (some ⟨z,1,none⟩)),some (.pointer (some ⟨z,1+a,none⟩)),some (.int .i64 (m a)),some (.bool true)] rfl (by kernel_rfl) (by kernel_rfl) ?_ ?_)
                   · intro i o' hi hsk ho a' w2 hout hin hk2
                     replace hk2:Kept [] W3 w2:=⟨hk2.os,hk2.tape,hk2.output,hk2.size,hk2.block⟩
                     match i,ho,hsk with
                     | 0,ho,hsk=>
                       obtain rfl:=Oj9 ho
                       exact wp_move (.tmp 3) rfl _ ((hout 3 (by kernel_rfl)).trans rfl) (tE rfl)
                     | 1,ho,hsk=>
                       obtain rfl:=Oj9 ho
                       exact o_fld57_1 (.tmp 5) rfl q (0) (1) rfl ((hout 5 (by kernel_rfl)).trans rfl) (tE rfl)
                     | 2,ho,hsk=>
                       obtain rfl:=Oj9 ho
                       have e0:a'.eval (.tmp 86)= .pointer (some ⟨q,1,none⟩):=is_tq (hin 1 86 (by kernel_rfl) (by kernel_rfl)) rfl
                       exact o_load3 (.tmp 86) rfl _ _ e0 (fits_cell ((unhide HS).step hk2).qb 1 _ rfl) (tE rfl)
                     | 3,ho,hsk=>
                       obtain rfl:=Oj9 ho
                       have e0:a'.eval (.tmp 85)=P0 z:=is_tq (hin 0 85 (by kernel_rfl) (by kernel_rfl)) rfl
                       exact o_nil (.tmp 85) rfl _ e0 (tE rfl)
                     | 4,ho,hsk=>
                       obtain rfl:=Oj9 ho
                       have e0:a'.eval (.tmp 88)=P0 z:=is_tq (hin 3 88 (by kernel_rfl) (by kernel_rfl)) rfl
                       exact o_fld55_1 (.tmp 88) rfl z (0) (1) rfl e0 (tE rfl)
                     | 5,ho,hsk=>
                       obtain rfl:=Oj9 ho
                       have e0:a'.eval (.tmp 89)= .pointer (some ⟨z,1,none⟩):=is_tq (hin 4 89 (by kernel_rfl) (by kernel_rfl)) rfl
                       have e1:a'.eval (.tmp 87)= .int .i64 a:=is_tq (hin 2 87 (by kernel_rfl) (by kernel_rfl)) rfl
                       exact o_idx53 (.tmp 89) (.tmp 87) rfl z (1) a (1+a) (by assumption) rfl e0 e1 (tE rfl)
                     | 6,ho,hsk=>
                       obtain rfl:=Oj9 ho
                       have e0:a'.eval (.tmp 90)= .pointer (some ⟨z,1+a,none⟩):=is_tq (hin 5 90 (by kernel_rfl) (by kernel_rfl)) rfl
                       exact o_load31 (.tmp 90) rfl _ _ e0 (fits_cell ((unhide HS).step hk2).la.nk.zb (1+a) _ (nd_m _ _ _ a (by assumption))) (tE rfl)
                     | 7,ho,hsk=>
                       obtain rfl:=Oj9 ho
                       have e0:a'.eval (.tmp 91)= .int .i64 (m a):=is_tq (hin 6 91 (by kernel_rfl) (by kernel_rfl)) rfl
                       exact c_neq31 (.tmp 91) (.const (.int .i64 (0))) rfl _ _ (false) (unhide D0) e0 rfl (tE rfl)
                   intro w9 hk9
                   replace hk9:Kept [] W3 w9:=⟨hk9.os,hk9.tape,hk9.output,hk9.size,hk9.block⟩
                   simp only [valsQ,List.map_cons,List.map_nil,Option.getD_some,List.take_succ_cons,List.take_zero,putAll,Act.put,List.setIfInBounds_toArray,List.set_cons_succ,List.set_cons_zero]
                   refine wpAny_done (by kernel_rfl) ?_ _
                   replace HS:Hid (Lt w w9 z b j m o s ln q (⟨4,a⟩:Ak)):=hide ((unhide HS).step hk9)
                   clear hk9 D0
                   go_wp2_with fail
                   have M:=hide (Mm.two (unhide HS).la.nk.zb (unhide HS).qb (by intro e9;have h9:=(unhide HS).qb;rw [← e9] at h9;exact absurd ((unhide HS).la.nk.zb.two h9) (by decide)))
                   refine wp_region_any mixed (wpAny_gx 7 rfl (by kernel_rfl) [some (P0 z),some (.pointer (some ⟨q,1,none⟩)),some (.int .i64 a),some (P0 z),some (.pointer (some ⟨z,1,none⟩)),some (.pointer (some ⟨z,1+a,none⟩)),none] rfl (by kernel_rfl) (fun l vs W=>(SD1 [z,q] w9 (fun d1=> [(z,55,ndC b (cond d1 (upd m a 0) m) o),(q,57,Ak.C (⟨4,a⟩:Ak))]) 6) (fun i=>l.getD i false) vs W) ((unhide M).drew) ?_ ?_)
                   · intro ix o' hi ho a' w2 l vs hls hlf hJ hout hin hdep hnot
                     match ix,ho with
                     | 0,ho=>
                       obtain rfl:=Oj9 ho
                       have e0:=hout 3 (by kernel_rfl)
                       replace e0:a'.eval (.tmp 3)=_:=e0.trans rfl
                       exact wp_move (.tmp 3) rfl _ e0 ⟨_,rfl,told_of rfl,keepG [6] SD1.loc (by omega) (by decide) hJ⟩
                     | 1,ho=>
                       obtain rfl:=Oj9 ho
                       have e0:=hout 5 (by kernel_rfl)
                       replace e0:a'.eval (.tmp 5)=_:=e0.trans rfl
                       exact o_fld57_1 (.tmp 5) rfl q (0) (1) rfl e0 ⟨_,rfl,told_of rfl,keepG [6] SD1.loc (by omega) (by decide) hJ⟩
                     | 2,ho=>
                       obtain rfl:=Oj9 ho
                       have e0:a'.eval (.tmp 94)= .pointer (some ⟨q,1,none⟩):=by have h9:=hin 1 94 (by kernel_rfl) (by kernel_rfl);exact h9.1.trans (told_is _ h9.2 rfl)
                       exact o_load3 (.tmp 94) rfl _ _ e0 (fits_cell (Mm.at hJ 1 _ rfl) 1 _ rfl) ⟨_,rfl,told_of rfl,keepG [6] SD1.loc (by omega) (by decide) hJ⟩
                     | 3,ho=>
                       obtain rfl:=Oj9 ho
                       have e0:a'.eval (.tmp 93)=P0 z:=by have h9:=hin 0 93 (by kernel_rfl) (by kernel_rfl);exact h9.1.trans (told_is _ h9.2 rfl)
                       exact o_nil (.tmp 93) rfl _ e0 ⟨_,rfl,told_of rfl,keepG [6] SD1.loc (by omega) (by decide) hJ⟩
                     | 4,ho=>
                       obtain rfl:=Oj9 ho
                       have e0:a'.eval (.tmp 96)=P0 z:=by have h9:=hin 3 96 (by kernel_rfl) (by kernel_rfl);exact h9.1.trans (told_is _ h9.2 rfl)
                       exact o_fld55_1 (.tmp 96) rfl z (0) (1) rfl e0 ⟨_,rfl,told_of rfl,keepG [6] SD1.loc (by omega) (by decide) hJ⟩
                     | 5,ho=>
                       obtain rfl:=Oj9 ho
                       have e0:a'.eval (.tmp 97)= .pointer (some ⟨z,1,none⟩):=by have h9:=hin 4 97 (by kernel_rfl) (by kernel_rfl);exact h9.1.trans (told_is _ h9.2 rfl)
                       have e1:a'.eval (.tmp 95)= .int .i64 a:=by have h9:=hin 2 95 (by kernel_rfl) (by kernel_rfl);exact h9.1.trans (told_is _ h9.2 rfl)
                       exact o_idx53 (.tmp 97) (.tmp 95) rfl z (1) a (1+a) (by assumption) rfl e0 e1 ⟨_,rfl,told_of rfl,keepG [6] SD1.loc (by omega) (by decide) hJ⟩
                     | 6,ho=>
                       obtain rfl:=Oj9 ho
                       have e0:a'.eval (.tmp 98)= .pointer (some ⟨z,1+a,none⟩):=by have h9:=hin 5 98 (by kernel_rfl) (by kernel_rfl);exact h9.1.trans (told_is _ h9.2 rfl)
                       exact o_st1 size31 (.tmp 98) _ rfl rfl z (1+a) 0 (.int .i64 0) ⟨rfl,rfl⟩ e0 rfl (SD1.no hJ hlf) rfl (by show 1+a<17;omega) (nd_setM b _ _ a (by assumption) _) (fun W hM=>⟨undef,rfl,told_no rfl,nextG (by omega) hM⟩)
                   intro l_ vs4 V2 hl hJ htold
                   have t0:vs4 0=P0 z:=told_is _ (htold 0 (by decide)) rfl
                   have t1:vs4 1= .pointer (some ⟨q,1,none⟩):=told_is _ (htold 1 (by decide)) rfl
                   have t2:vs4 2= .int .i64 a:=told_is _ (htold 2 (by decide)) rfl
                   have t3:vs4 3=P0 z:=told_is _ (htold 3 (by decide)) rfl
                   have t4:vs4 4= .pointer (some ⟨z,1,none⟩):=told_is _ (htold 4 (by decide)) rfl
                   have t5:vs4 5= .pointer (some ⟨z,1+a,none⟩):=told_is _ (htold 5 (by decide)) rfl
                   rw [show (List.range 7).map vs4= [vs4 0,vs4 1,vs4 2,vs4 3,vs4 4,vs4 5,vs4 6] from rfl]
                   simp only [t0,t1,t2,t3,t4,t5,putAll,Act.put,List.setIfInBounds_toArray,List.set_cons_succ,List.set_cons_zero]
                   clear t0 t1 t2 t3 t4 t5 htold
                   have hM4:Mm [z,q] w9 V2 ([(z,55,ndC b (upd m a 0) o),(q,57,Ak.C (⟨4,a⟩:Ak))]):=SD1.yes hJ (hl 6 (by decide))
                   replace M:Hid (Mm [z,q] w9 V2 [(z,55,ndC b (upd m a 0) o),(q,57,Ak.C (⟨4,a⟩:Ak))]):=hide hM4
                   clear hM4 hJ hl
                   have HN2:Hid (Nk j w V2 z b (upd m a 0) o s [] ln):=(unhide HS).la.nk.putQ (unhide HS).q0 (unhide HS).qb (unhide M).kept ((unhide M).at 0 _ rfl)
                   have HQ2:Hid (Blk V2 q 57 (Ak.C (⟨4,a⟩:Ak))):=(unhide M).at 1 _ rfl
                   clear M HS
                   go_wp2_with fail
                   have hP:PA j w z b q (upd m a 0) o s ln (⟨4,a⟩:Ak) V2:=⟨unhide HQ2,unhide HN2⟩
                   have HP:=hide hP
                   clear hP
                   refine wp_region_any mixed (wpAny_gx 15 rfl (by kernel_rfl) [some (P0 z),some (P0 z),some (P0 z),some (P0 b),some (.pointer (some ⟨q,1,none⟩)),some (.int .i64 a),some (P0 z),some (.pointer (some ⟨q,1,none⟩)),some (.int .i64 a),some (P0 z),some (.pointer (some ⟨z,9,none⟩)),some (.pointer (some ⟨z,9+a,none⟩)),some (.int .i64 (o a)),none,none] rfl (by kernel_rfl) (fun l vs W=>(SG (PA j w z b q (upd m a 0) o s ln (⟨4,a⟩:Ak)) (RA (j+1) w z b q (upd m a 0) o (relP s [] (a:Int) (o a)) (⟨4,a⟩:Ak)) 13 14) (fun i=>l.getD i false) vs W) (⟨fun _=>⟨(unhide HP).1.drew,(unhide HP).2.step (Kept.refl [] _).drew⟩,(fun h=>by cases h),fun h=>by cases h⟩) ?_ ?_)
                   · intro ix o' hi ho a' w2 l vs hls hlf hJ hout hin hdep hnot
                     match ix,ho with
                     | 0,ho=>
                       obtain rfl:=Oj9 ho
                       have e0:=hout 3 (by kernel_rfl)
                       replace e0:a'.eval (.tmp 3)=_:=e0.trans rfl
                       exact wp_move (.tmp 3) rfl _ e0 ⟨_,rfl,told_of rfl,keepG [13,14] SG.loc (by omega) (by decide) hJ⟩
                     | 1,ho=>
                       obtain rfl:=Oj9 ho
                       have e0:a'.eval (.tmp 99)=P0 z:=by have h9:=hin 0 99 (by kernel_rfl) (by kernel_rfl);exact h9.1.trans (told_is _ h9.2 rfl)
                       exact o_nil (.tmp 99) rfl _ e0 ⟨_,rfl,told_of rfl,keepG [13,14] SG.loc (by omega) (by decide) hJ⟩
                     | 2,ho=>
                       obtain rfl:=Oj9 ho
                       have e0:a'.eval (.tmp 100)=P0 z:=by have h9:=hin 1 100 (by kernel_rfl) (by kernel_rfl);exact h9.1.trans (told_is _ h9.2 rfl)
                       exact o_fld55_0 (.tmp 100) rfl z (0) (0) rfl e0 ⟨_,rfl,told_of rfl,keepG [13,14] SG.loc (by omega) (by decide) hJ⟩
                     | 3,ho=>
                       obtain rfl:=Oj9 ho
                       have e0:a'.eval (.tmp 101)=P0 z:=by have h9:=hin 2 101 (by kernel_rfl) (by kernel_rfl);exact h9.1.trans (told_is _ h9.2 rfl)
                       exact o_load24 (.tmp 101) rfl _ _ e0 (fits_cell (SG.qb hJ).2 0 _ rfl) ⟨_,rfl,told_of rfl,keepG [13,14] SG.loc (by omega) (by decide) hJ⟩
                     | 4,ho=>
                       obtain rfl:=Oj9 ho
                       have e0:=hout 5 (by kernel_rfl)
                       replace e0:a'.eval (.tmp 5)=_:=e0.trans rfl
                       exact o_fld57_1 (.tmp 5) rfl q (0) (1) rfl e0 ⟨_,rfl,told_of rfl,keepG [13,14] SG.loc (by omega) (by decide) hJ⟩
                     | 5,ho=>
                       obtain rfl:=Oj9 ho
                       have e0:a'.eval (.tmp 103)= .pointer (some ⟨q,1,none⟩):=by have h9:=hin 4 103 (by kernel_rfl) (by kernel_rfl);exact h9.1.trans (told_is _ h9.2 rfl)
                       exact o_load3 (.tmp 103) rfl _ _ e0 (fits_cell (SG.qb hJ).1 1 _ rfl) ⟨_,rfl,told_of rfl,keepG [13,14] SG.loc (by omega) (by decide) hJ⟩
                     | 6,ho=>
                       obtain rfl:=Oj9 ho
                       have e0:=hout 3 (by kernel_rfl)
                       replace e0:a'.eval (.tmp 3)=_:=e0.trans rfl
                       exact wp_move (.tmp 3) rfl _ e0 ⟨_,rfl,told_of rfl,keepG [13,14] SG.loc (by omega) (by decide) hJ⟩
                     | 7,ho=>
                       obtain rfl:=Oj9 ho
                       have e0:=hout 5 (by kernel_rfl)
                       replace e0:a'.eval (.tmp 5)=_:=e0.trans rfl
                       exact o_fld57_1 (.tmp 5) rfl q (0) (1) rfl e0 ⟨_,rfl,told_of rfl,keepG [13,14] SG.loc (by omega) (by decide) hJ⟩
                     | 8,ho=>
                       obtain rfl:=Oj9 ho
                       have e0:a'.eval (.tmp 106)= .pointer (some ⟨q,1,none⟩):=by have h9:=hin 7 106 (by kernel_rfl) (by kernel_rfl);exact h9.1.trans (told_is _ h9.2 rfl)
                       exact o_load3 (.tmp 106) rfl _ _ e0 (fits_cell (SG.qb hJ).1 1 _ rfl) ⟨_,rfl,told_of rfl,keepG [13,14] SG.loc (by omega) (by decide) hJ⟩
                     | 9,ho=>
                       obtain rfl:=Oj9 ho
                       have e0:a'.eval (.tmp 105)=P0 z:=by have h9:=hin 6 105 (by kernel_rfl) (by kernel_rfl);exact h9.1.trans (told_is _ h9.2 rfl)
                       exact o_nil (.tmp 105) rfl _ e0 ⟨_,rfl,told_of rfl,keepG [13,14] SG.loc (by omega) (by decide) hJ⟩
                     | 10,ho=>
                       obtain rfl:=Oj9 ho
                       have e0:a'.eval (.tmp 108)=P0 z:=by have h9:=hin 9 108 (by kernel_rfl) (by kernel_rfl);exact h9.1.trans (told_is _ h9.2 rfl)
                       exact o_fld55_2 (.tmp 108) rfl z (0) (9) rfl e0 ⟨_,rfl,told_of rfl,keepG [13,14] SG.loc (by omega) (by decide) hJ⟩
                     | 11,ho=>
                       obtain rfl:=Oj9 ho
                       have e0:a'.eval (.tmp 109)= .pointer (some ⟨z,9,none⟩):=by have h9:=hin 10 109 (by kernel_rfl) (by kernel_rfl);exact h9.1.trans (told_is _ h9.2 rfl)
                       have e1:a'.eval (.tmp 107)= .int .i64 a:=by have h9:=hin 8 107 (by kernel_rfl) (by kernel_rfl);exact h9.1.trans (told_is _ h9.2 rfl)
                       exact o_idx37 (.tmp 109) (.tmp 107) rfl z (9) a (9+a) (by assumption) rfl e0 e1 ⟨_,rfl,told_of rfl,keepG [13,14] SG.loc (by omega) (by decide) hJ⟩
                     | 12,ho=>
                       obtain rfl:=Oj9 ho
                       have e0:a'.eval (.tmp 110)= .pointer (some ⟨z,9+a,none⟩):=by have h9:=hin 11 110 (by kernel_rfl) (by kernel_rfl);exact h9.1.trans (told_is _ h9.2 rfl)
                       exact o_load2 (.tmp 110) rfl _ _ e0 (fits_cell (SG.qb hJ).2 (9+a) _ (nd_o _ _ _ a (by assumption))) ⟨_,rfl,told_of rfl,keepG [13,14] SG.loc (by omega) (by decide) hJ⟩
                     | 13,ho=>
                       obtain rfl:=Oj9 ho
                       have e0:a'.eval (.tmp 102)=P0 b:=by have h9:=hin 3 102 (by kernel_rfl) (by kernel_rfl);exact h9.1.trans (told_is _ h9.2 rfl)
                       have e1:a'.eval (.tmp 104)= .int .i64 a:=by have h9:=hin 5 104 (by kernel_rfl) (by kernel_rfl);exact h9.1.trans (told_is _ h9.2 rfl)
                       have e2:a'.eval (.tmp 111)= .int .i64 (o a):=by have h9:=hin 12 111 (by kernel_rfl) (by kernel_rfl);exact h9.1.trans (told_is _ h9.2 rfl)
                       have hP9:=hJ.n1 hlf
                       refine wp_callF 22 _ _ rfl #[P0 b,.int .i64 a,.int .i64 (o a)] (by simp [e0,e1,e2] <;> rfl) (cg22 _ _) ((Nk.call hP9.2 (by omega) (fun hs=>rel22 s ln b [] a (o a) _ hs) (rel_gd hP9.2.gd)).mono ?_)
                       rintro e w3 ⟨v3,ln3,rfl,N3,hN3,K3⟩
                       exact⟨_,rfl,_,rfl,told_no rfl,nextG (by omega) (SG.call hJ (by decide) (hnot 14 (by kernel_rfl)) ⟨hP9.1.kept K3 (hP9.2.far hP9.1 (by decide) (by decide)),ln3,New.elder N3 hP9.2.kept.size,hN3⟩)⟩
                     | 14,ho=>
                       obtain rfl:=Oj9 ho
                       have e0:a'.eval (.tmp 112)=vs 13:=(hin 13 112 (by kernel_rfl) (by kernel_rfl)).1
                       exact wp_assignV (.tmp 112) rfl _ e0 ⟨_,rfl,told_no rfl,nextG (by omega) (SG.as _ _ hJ (by decide) (hdep 13 (by kernel_rfl)))⟩
                   intro l_ vs4 V9 hl hJ htold
                   have t0:vs4 0=P0 z:=told_is _ (htold 0 (by decide)) rfl
                   have t1:vs4 1=P0 z:=told_is _ (htold 1 (by decide)) rfl
                   have t2:vs4 2=P0 z:=told_is _ (htold 2 (by decide)) rfl
                   have t3:vs4 3=P0 b:=told_is _ (htold 3 (by decide)) rfl
                   have t4:vs4 4= .pointer (some ⟨q,1,none⟩):=told_is _ (htold 4 (by decide)) rfl
                   have t5:vs4 5= .int .i64 a:=told_is _ (htold 5 (by decide)) rfl
                   have t6:vs4 6=P0 z:=told_is _ (htold 6 (by decide)) rfl
                   have t7:vs4 7= .pointer (some ⟨q,1,none⟩):=told_is _ (htold 7 (by decide)) rfl
                   have t8:vs4 8= .int .i64 a:=told_is _ (htold 8 (by decide)) rfl
                   have t9:vs4 9=P0 z:=told_is _ (htold 9 (by decide)) rfl
                   have t10:vs4 10= .pointer (some ⟨z,9,none⟩):=told_is _ (htold 10 (by decide)) rfl
                   have t11:vs4 11= .pointer (some ⟨z,9+a,none⟩):=told_is _ (htold 11 (by decide)) rfl
                   have t12:vs4 12= .int .i64 (o a):=told_is _ (htold 12 (by decide)) rfl
                   rw [show (List.range 15).map vs4= [vs4 0,vs4 1,vs4 2,vs4 3,vs4 4,vs4 5,vs4 6,vs4 7,vs4 8,vs4 9,vs4 10,vs4 11,vs4 12,vs4 13,vs4 14] from rfl]
                   simp only [t0,t1,t2,t3,t4,t5,t6,t7,t8,t9,t10,t11,t12,putAll,Act.put,List.setIfInBounds_toArray,List.set_cons_succ,List.set_cons_zero]
                   clear t0 t1 t2 t3 t4 t5 t6 t7 t8 t9 t10 t11 t12 htold
                   obtain⟨hQ9,ln9,hO9,hN9⟩:=hJ.n2 (hl 13 (by decide))
                   obtain⟨_,e9⟩:=hJ.a1 (hl 14 (by decide))
                   rw [e9]
                   generalize vs4 13=v9 at hO9⊢
                   obtain⟨r9,hr9⟩:∃r,r=relP s [] (a:Int) (o a):=⟨_,rfl⟩
                   rw [← hr9] at hO9 hN9
                   have HST9:_:=unhide HST
                   rw [← hr9] at HST9
                   clear hr9
                   have HL9:Hid (Lr w V9 z b (j+1) (upd m a 0) o r9.1 ln9 q (⟨4,a⟩:Ak) v9 r9.2.2 none 0):=hide ⟨by rw [HST9.1] at hN9 ⊢;exact hN9,hQ9,hO9,by rw [HST9.1];exact HST9.2⟩
                   clear HST9 HST e9 hJ hl HP hQ9 hO9 hN9
                   go_wp2_with fail
                   go_meet
                   case rel=>exact ⟨_,_,_,_,_,_,_,by omega,HL9,hide (fun m9 h9=>⟨fun h=>absurd h (by decide),fun h=>absurd h (by decide)⟩)⟩
                 | true=>
                   have D0:=hide hm
                   clear hm
                   go_wp2_with fail
                   refine wp_region_any mixed (wpAny_tq 8 rfl (by kernel_rfl) [some (P0 z),some (.pointer (some ⟨q,1,none⟩)),some (.int .i64 a),some (P0 z),some (.pointer (some ⟨z,1,none⟩)),some (.pointer (some ⟨z,1+a,none⟩)),some (.int .i64 (m a)),some (.bool false)] rfl (by kernel_rfl) (by kernel_rfl) ?_ ?_)
                   · intro i o' hi hsk ho a' w2 hout hin hk2
                     replace hk2:Kept [] W3 w2:=⟨hk2.os,hk2.tape,hk2.output,hk2.size,hk2.block⟩
                     match i,ho,hsk with
                     | 0,ho,hsk=>
                       obtain rfl:=Oj9 ho
                       exact wp_move (.tmp 3) rfl _ ((hout 3 (by kernel_rfl)).trans rfl) (tE rfl)
                     | 1,ho,hsk=>
                       obtain rfl:=Oj9 ho
                       exact o_fld57_1 (.tmp 5) rfl q (0) (1) rfl ((hout 5 (by kernel_rfl)).trans rfl) (tE rfl)
                     | 2,ho,hsk=>
                       obtain rfl:=Oj9 ho
                       have e0:a'.eval (.tmp 86)= .pointer (some ⟨q,1,none⟩):=is_tq (hin 1 86 (by kernel_rfl) (by kernel_rfl)) rfl
                       exact o_load3 (.tmp 86) rfl _ _ e0 (fits_cell ((unhide HS).step hk2).qb 1 _ rfl) (tE rfl)
                     | 3,ho,hsk=>
                       obtain rfl:=Oj9 ho
                       have e0:a'.eval (.tmp 85)=P0 z:=is_tq (hin 0 85 (by kernel_rfl) (by kernel_rfl)) rfl
                       exact o_nil (.tmp 85) rfl _ e0 (tE rfl)
                     | 4,ho,hsk=>
                       obtain rfl:=Oj9 ho
                       have e0:a'.eval (.tmp 88)=P0 z:=is_tq (hin 3 88 (by kernel_rfl) (by kernel_rfl)) rfl
                       exact o_fld55_1 (.tmp 88) rfl z (0) (1) rfl e0 (tE rfl)
                     | 5,ho,hsk=>
                       obtain rfl:=Oj9 ho
                       have e0:a'.eval (.tmp 89)= .pointer (some ⟨z,1,none⟩):=is_tq (hin 4 89 (by kernel_rfl) (by kernel_rfl)) rfl
                       have e1:a'.eval (.tmp 87)= .int .i64 a:=is_tq (hin 2 87 (by kernel_rfl) (by kernel_rfl)) rfl
                       exact o_idx53 (.tmp 89) (.tmp 87) rfl z (1) a (1+a) (by assumption) rfl e0 e1 (tE rfl)
                     | 6,ho,hsk=>
                       obtain rfl:=Oj9 ho
                       have e0:a'.eval (.tmp 90)= .pointer (some ⟨z,1+a,none⟩):=is_tq (hin 5 90 (by kernel_rfl) (by kernel_rfl)) rfl
                       exact o_load31 (.tmp 90) rfl _ _ e0 (fits_cell ((unhide HS).step hk2).la.nk.zb (1+a) _ (nd_m _ _ _ a (by assumption))) (tE rfl)
                     | 7,ho,hsk=>
                       obtain rfl:=Oj9 ho
                       have e0:a'.eval (.tmp 91)= .int .i64 (m a):=is_tq (hin 6 91 (by kernel_rfl) (by kernel_rfl)) rfl
                       exact c_neq31 (.tmp 91) (.const (.int .i64 (0))) rfl _ _ (true) (unhide D0) e0 rfl (tE rfl)
                   intro w9 hk9
                   replace hk9:Kept [] W3 w9:=⟨hk9.os,hk9.tape,hk9.output,hk9.size,hk9.block⟩
                   simp only [valsQ,List.map_cons,List.map_nil,Option.getD_some,List.take_succ_cons,List.take_zero,putAll,Act.put,List.setIfInBounds_toArray,List.set_cons_succ,List.set_cons_zero]
                   refine wpAny_done (by kernel_rfl) ?_ _
                   replace HS:Hid (Lt w w9 z b j m o s ln q (⟨4,a⟩:Ak)):=hide ((unhide HS).step hk9)
                   clear hk9 D0
                   go_wp2_with fail
                   go_meet
                   case rel=>exact ⟨m,o,s,ln,[],none,0,by omega,hide ⟨(unhide HS).la.nk.tight (by have:=(unhide HS).la.nk.gd.op1;simp at this;omega),(unhide HS).qb,New.nil _ _ _ _,st_none (unhide HS).la.h1 (unhide HS).la.h2 (unhide HS).la.jv (unhide HS).la.sy (fun a9 v9 h9=>by cases h9)⟩,hide (fun m9 h9=>⟨fun h=>absurd h (by decide),fun h=>absurd h (by decide)⟩)⟩
               · have H1:=hide h1
                 have H2:=hide h2
                 have h1a:=nef_a h1
                 have h1b:=nef_b h1
                 have h1c:=nef_c h1
                 have h2a:=nef_a h2
                 have h2b:=nef_b h2
                 have h2c:=nef_c h2
                 have h3a:=nef_a h3
                 have h3b:=nef_b h3
                 have h3c:=nef_c h3
                 have h4a:=nef_a h4
                 have h4b:=nef_b h4
                 have h4c:=nef_c h4
                 clear h1 h2 h3 h4
                 go_wp2_with fail
                 go_meet
                 case rel=>exact ⟨m,o,s,ln,[],none,0,by omega,hide ⟨(unhide HS).la.nk.tight (by have:=(unhide HS).la.nk.gd.op1;simp at this;omega),(unhide HS).qb,New.nil _ _ _ _,st_none (unhide HS).la.h1 (unhide HS).la.h2 (unhide HS).la.jv (unhide HS).la.sy (fun a9 v9 h9=>by cases h9)⟩,hide (fun m9 h9=>⟨fun h=>absurd h (unhide H1),fun h=>absurd h (unhide H2)⟩)⟩
     case rest=>
       clear HS
       obtain⟨m,o,s,ln,T,tg,k,hk10,HL,HG⟩:=hcut
       obtain⟨vo,vc,rfl,_,_⟩:=(unhide HL).tl.row.sl
       go_wp2_with fail
       go_loopw [6,7] (fun tv nv wr=>∃(m o:Nat→Int) (s:Lo) (ln:Value) (T:List Od) (k n:Nat),n+k≤10∧nv= .int .i64 n∧Hid (Lr w wr z b (j+1) m o s ln q ⟨kk,a⟩ tv T tg k)) (fun _ nv _=>10-(intOf nv).toNat)
       case atStart=>exact ⟨m,o,s,ln,T,k,0,by omega,rfl,HL⟩
       case round=>
         clear HL
         obtain⟨m,o,s,ln,T,k,n,hnk,rfl,HL⟩:=hrel
         have hle:=(unhide HL).fl.len
         have HTL:=hide (unhide HL).tl
         obtain⟨vo,vc,rfl,hcc⟩:=(unhide HL).tl.row.sl
         have HCC:=hide hcc
         clear hcc
         obtain⟨nT,hnT⟩:∃nT,nT=T.length:=⟨_,rfl⟩
         have HLL:Hid (T.length=nT):=hnT.symm
         clear hnT
         rw [unhide HLL]
         cases T with
         | nil=>
           obtain⟨h1,h2,hg⟩:=Fl.zero (unhide HL).fl
           have HZ:Hid (La w wr z b (j+1) m o s ln):=⟨(unhide HL).nk,(unhide HL).fl.jv,(unhide HL).fl.sy,h1,h2⟩
           have HD:=hide (unhide HG m hg)
           have HQ:=hide (unhide HL).qb
           have h0:nT=0:=(unhide HLL).symm
           have hd1:decide ((nT:Int)>0)=false:=by simp;omega
           have hd2:decide ((0:Int)<(nT:Int))=false:=by simp;omega
           have hd3:decide (0<nT)=false:=by simp;omega
           clear h0
           clear h1 h2 hg HL HTL HG hle HCC
           have cz:wr.cell? ⟨z,0,none⟩=some (P0 b):=fits_cell (unhide HZ).nk.zb 0 _ rfl
           have P17:=hide (show Calls Try.prog 17 #[P0 b] wr fun e w'=>e= .returned (.bool true)∧w'=wr from by have h9:=idle17 s ln b wr (unhide HZ).nk.lb;rw [show s.busy=false from by have h8:=busy_eq (unhide HZ).jv;rw [(unhide HZ).h1] at h8;exact h8] at h9;exact h9)
           have P15:Hid (Calls Try.prog 15 #[P0 b] wr fun e w'=>∃a1 n1 c1 a2 n2 c2 a3 c3,e= .returned (aggV ((s.book []).C (.slice a1 n1 c1) (.slice a2 n2 c2) (.slice a3 0 c3)))∧Kept [] wr w'):=by
             refine(book15 s ln b [] wr (unhide HZ).nk.lb (unhide HZ).nk.lw (unhide HZ).jv.ok.ex (by simp)).mono ?_
             rintro e W8 ⟨x8,y8,z8,rfl,hB8,K8⟩
             obtain⟨a1,c1,rfl,_,_⟩:=hB8.sh.row.sl
             obtain⟨a2,c2,rfl,_,_⟩:=hB8.pa.row.sl
             obtain⟨a3,c3,rfl,_,_⟩:=hB8.ln.row.sl
             exact⟨a1,_,c1,a2,_,c2,a3,c3,rfl,K8⟩
           go_wp2_with (first |(refine wpLd24 rfl (.tmp 139) rfl ⟨z,0,none⟩ (P0 b) rfl cz ?_;refine Stp.go ?_))
           constructor
           go_wp2_with (first |(go_at_call 17;refine(unhide P17).mono ?_;rintro e W8 ⟨rfl,q8⟩;replace q8:=q8.symm;subst q8;clear P17;refine Stp.go ?_))
           constructor
           go_wp2_with (first |(refine wpLd24W (by rfl) (.tmp 146) rfl ⟨z,0,none⟩ (P0 b) rfl cz ?_;refine Stp.go ?_))
           constructor
           go_wp2_with (first |(go_at_call 15;refine(unhide P15).mono ?_;rintro e W8 ⟨a1,n1,c1,a2,n2,c2,a3,c3,rfl,K8⟩;replace HZ:=hide ((unhide HZ).step K8);replace HQ:=hide ((unhide HQ).kept K8 (by simp));clear P15 K8 cz;refine Stp.go ?_))
           constructor
           go_wp2_with (first |(refine wpFldBW (by rfl) (.tmp 148) rfl (s.book []) a1 a2 a3 n1 n2 0 c1 c2 c3 rfl ?_;refine Stp.go ?_))
           constructor
           go_wp2_with fail
           go_loopw [10] (fun xn wr=>∃n:Nat,n≤8∧xn= .int .i64 n∧Hid (La w wr z b (j+1) m o s ln)∧Hid (Blk wr q 57 (Ak.C ⟨kk,a⟩))) (fun xn _=>8-(intOf xn).toNat)
           case atStart=>exact ⟨0,by omega,rfl,HZ,HQ⟩
           case round=>
             clear HZ HQ
             obtain⟨n,hn,rfl,HZ,HQ⟩:=hrel
             by_cases hn8:n<8
             · have hd8:decide ((n:Int)<8)=true:=by simp;omega
               have hnI:(n:Int)<8:=by omega
               have cz:wr.cell? ⟨z,0,none⟩=some (P0 b):=fits_cell (unhide HZ).nk.zb 0 _ rfl
               have hm:=(unhide HZ).sy.m n hn8
               have cn0:wr.cell? ⟨z,1+n,none⟩=some (.int .i64 (m n)):=fits_cell (unhide HZ).nk.zb (1+n) _ (nd_m b m o n hn8)
               cases hh:s.ho n with
               | false=>
                 rw [hh,if_neg (by simp)] at hm
                 have P18:=hide (hold_b s ln b n wr (unhide HZ).nk.lb hn8 hh)
                 have cn:wr.cell? ⟨z,1+n,none⟩=some (.int .i64 0):=by have h9:=cn0;rw [hm] at h9;exact h9
                 clear cn0 hm hh
                 go_wp2_with (first |(refine wpLd24 rfl (.tmp 160) rfl ⟨z,0,none⟩ (P0 b) rfl cz ?_;refine Stp.go ?_))
                 constructor
                 go_wp2_with (first |(go_at_call 18;refine(unhide P18).mono ?_;rintro e W8 ⟨rfl,q8⟩;replace q8:=q8.symm;subst q8;clear P18;refine Stp.go ?_))
                 constructor
                 go_wp2_with fail
                 go_roundw
                 case rel=>exact ⟨n+1,by omega,by go_num,HZ,HQ⟩
                 case measure=>simp [intOf];omega
               | true=>
                 rw [hh,if_pos rfl] at hm
                 by_cases hx:s.ex=(n:Int)
                 · rw [if_pos hx] at hm
                   have P18:=hide (hold_c s ln b n wr (unhide HZ).nk.lb hn8 hh hx)
                   have cn:wr.cell? ⟨z,1+n,none⟩=some (.int .i64 2):=by have h9:=cn0;rw [hm] at h9;exact h9
                   clear cn0 hm hh hx
                   go_wp2_with (first |(refine wpLd24 rfl (.tmp 160) rfl ⟨z,0,none⟩ (P0 b) rfl cz ?_;refine Stp.go ?_))
                   constructor
                   go_wp2_with (first |(go_at_call 18;refine(unhide P18).mono ?_;rintro e W8 ⟨rfl,q8⟩;replace q8:=q8.symm;subst q8;clear P18;refine Stp.go ?_))
                   constructor
                   go_wp2_with fail
                   go_roundw
                   case rel=>exact ⟨n+1,by omega,by go_num,HZ,HQ⟩
                   case measure=>simp [intOf];omega
                 · rw [if_neg hx] at hm
                   have P18:=hide (hold_d s ln b n wr (unhide HZ).nk.lb hn8 hh hx)
                   have cn:wr.cell? ⟨z,1+n,none⟩=some (.int .i64 1):=by have h9:=cn0;rw [hm] at h9;exact h9
                   clear cn0 hm hh hx
                   go_wp2_with (first |(refine wpLd24 rfl (.tmp 160) rfl ⟨z,0,none⟩ (P0 b) rfl cz ?_;refine Stp.go ?_))
                   constructor
                   go_wp2_with (first |(go_at_call 18;refine(unhide P18).mono ?_;rintro e W8 ⟨rfl,q8⟩;replace q8:=q8.symm;subst q8;clear P18;refine Stp.go ?_))
                   constructor
                   go_wp2_with fail
                   go_roundw
                   case rel=>exact ⟨n+1,by omega,by go_num,HZ,HQ⟩
                   case measure=>simp [intOf];omega
             · obtain rfl:n=8:=by omega
               have hd8:decide (((8:Nat):Int)<8)=false:=by decide
               clear hn hn8
               by_cases h1:kk=1
               · subst h1
                 have D0:Hid (decide (m a=0)=false):=decide_eq_false ((unhide HD).1 rfl)
                 go_wp2_with fail
                 refine wp_region_any mixed (wpAny_tq 28 rfl (by kernel_rfl) [some (P0 q),some (.int .i64 1),some (.bool true),some (.bool true),some (P0 z),some (.pointer (some ⟨q,1,none⟩)),some (.int .i64 a),some (P0 z),some (.pointer (some ⟨z,1,none⟩)),some (.pointer (some ⟨z,1+a,none⟩)),some (.int .i64 (m a)),some (.bool false),some (.bool false),some (.bool false),some (P0 q),some (.int .i64 1),some (.bool false),some (.bool false),none,none,none,none,none,none,none,none,some (.bool false),some (.bool false)] rfl (by kernel_rfl) (by kernel_rfl) ?_ ?_)
                 · intro i o' hi hsk ho a' w2 hout hin hk2
                   replace hk2:Kept [] wr w2:=⟨hk2.os,hk2.tape,hk2.output,hk2.size,hk2.block⟩
                   match i,ho,hsk with
                   | 0,ho,hsk=>
                     obtain rfl:=Oj9 ho
                     exact o_fld57_0 (.tmp 5) rfl q (0) (0) rfl ((hout 5 (by kernel_rfl)).trans rfl) (tE rfl)
                   | 1,ho,hsk=>
                     obtain rfl:=Oj9 ho
                     have e0:a'.eval (.tmp 188)=P0 q:=is_tq (hin 0 188 (by kernel_rfl) (by kernel_rfl)) rfl
                     exact o_load3 (.tmp 188) rfl _ _ e0 (fits_cell ((unhide HQ).kept hk2 (by simp)) 0 _ rfl) (tE rfl)
                   | 2,ho,hsk=>
                     obtain rfl:=Oj9 ho
                     have e0:a'.eval (.tmp 189)= .int .i64 1:=is_tq (hin 1 189 (by kernel_rfl) (by kernel_rfl)) rfl
                     exact c_eql3 (.tmp 189) (.const (.int .i64 (1))) rfl _ _ (true) (by decide) e0 rfl (tE rfl)
                   | 3,ho,hsk=>
                     obtain rfl:=Oj9 ho
                     have e0:a'.eval (.tmp 190)= .bool true:=is_tq (hin 2 190 (by kernel_rfl) (by kernel_rfl)) rfl
                     exact wp_move (.tmp 190) rfl _ e0 (tE rfl)
                   | 4,ho,hsk=>
                     obtain rfl:=Oj9 ho
                     exact wp_move (.tmp 3) rfl _ ((hout 3 (by kernel_rfl)).trans rfl) (tE rfl)
                   | 5,ho,hsk=>
                     obtain rfl:=Oj9 ho
                     exact o_fld57_1 (.tmp 5) rfl q (0) (1) rfl ((hout 5 (by kernel_rfl)).trans rfl) (tE rfl)
                   | 6,ho,hsk=>
                     obtain rfl:=Oj9 ho
                     have e0:a'.eval (.tmp 193)= .pointer (some ⟨q,1,none⟩):=is_tq (hin 5 193 (by kernel_rfl) (by kernel_rfl)) rfl
                     exact o_load3 (.tmp 193) rfl _ _ e0 (fits_cell ((unhide HQ).kept hk2 (by simp)) 1 _ rfl) (tE rfl)
                   | 7,ho,hsk=>
                     obtain rfl:=Oj9 ho
                     have e0:a'.eval (.tmp 192)=P0 z:=is_tq (hin 4 192 (by kernel_rfl) (by kernel_rfl)) rfl
                     exact o_nil (.tmp 192) rfl _ e0 (tE rfl)
                   | 8,ho,hsk=>
                     obtain rfl:=Oj9 ho
                     have e0:a'.eval (.tmp 195)=P0 z:=is_tq (hin 7 195 (by kernel_rfl) (by kernel_rfl)) rfl
                     exact o_fld55_1 (.tmp 195) rfl z (0) (1) rfl e0 (tE rfl)
                   | 9,ho,hsk=>
                     obtain rfl:=Oj9 ho
                     have e0:a'.eval (.tmp 196)= .pointer (some ⟨z,1,none⟩):=is_tq (hin 8 196 (by kernel_rfl) (by kernel_rfl)) rfl
                     have e1:a'.eval (.tmp 194)= .int .i64 a:=is_tq (hin 6 194 (by kernel_rfl) (by kernel_rfl)) rfl
                     exact o_idx53 (.tmp 196) (.tmp 194) rfl z (1) a (1+a) (by assumption) rfl e0 e1 (tE rfl)
                   | 10,ho,hsk=>
                     obtain rfl:=Oj9 ho
                     have e0:a'.eval (.tmp 197)= .pointer (some ⟨z,1+a,none⟩):=is_tq (hin 9 197 (by kernel_rfl) (by kernel_rfl)) rfl
                     exact o_load31 (.tmp 197) rfl _ _ e0 (fits_cell ((unhide HZ).step hk2).nk.zb (1+a) _ (nd_m _ _ _ a (by assumption))) (tE rfl)
                   | 11,ho,hsk=>
                     obtain rfl:=Oj9 ho
                     have e0:a'.eval (.tmp 198)= .int .i64 (m a):=is_tq (hin 10 198 (by kernel_rfl) (by kernel_rfl)) rfl
                     exact c_eql31 (.tmp 198) (.const (.int .i64 (0))) rfl _ _ (false) (unhide D0) e0 rfl (tE rfl)
                   | 12,ho,hsk=>
                     obtain rfl:=Oj9 ho
                     have e0:a'.eval (.tmp 191)= .bool true:=is_tq (hin 3 191 (by kernel_rfl) (by kernel_rfl)) rfl
                     have e1:a'.eval (.tmp 199)= .bool false:=is_tq (hin 11 199 (by kernel_rfl) (by kernel_rfl)) rfl
                     exact o_pick (.tmp 191) (.tmp 199) rfl _ e0 e1 (tE rfl)
                   | 13,ho,hsk=>
                     obtain rfl:=Oj9 ho
                     have e0:a'.eval (.tmp 200)= .bool false:=is_tq (hin 12 200 (by kernel_rfl) (by kernel_rfl)) rfl
                     exact wp_move (.tmp 200) rfl _ e0 (tE rfl)
                   | 14,ho,hsk=>
                     obtain rfl:=Oj9 ho
                     exact o_fld57_0 (.tmp 5) rfl q (0) (0) rfl ((hout 5 (by kernel_rfl)).trans rfl) (tE rfl)
                   | 15,ho,hsk=>
                     obtain rfl:=Oj9 ho
                     have e0:a'.eval (.tmp 202)=P0 q:=is_tq (hin 14 202 (by kernel_rfl) (by kernel_rfl)) rfl
                     exact o_load3 (.tmp 202) rfl _ _ e0 (fits_cell ((unhide HQ).kept hk2 (by simp)) 0 _ rfl) (tE rfl)
                   | 16,ho,hsk=>
                     obtain rfl:=Oj9 ho
                     have e0:a'.eval (.tmp 203)= .int .i64 1:=is_tq (hin 15 203 (by kernel_rfl) (by kernel_rfl)) rfl
                     exact c_eql3 (.tmp 203) (.const (.int .i64 (2))) rfl _ _ (false) (by decide) e0 rfl (tE rfl)
                   | 17,ho,hsk=>
                     obtain rfl:=Oj9 ho
                     have e0:a'.eval (.tmp 204)= .bool false:=is_tq (hin 16 204 (by kernel_rfl) (by kernel_rfl)) rfl
                     exact wp_move (.tmp 204) rfl _ e0 (tE rfl)
                   | 18,ho,hsk=>
                     cases hsk
                   | 19,ho,hsk=>
                     cases hsk
                   | 20,ho,hsk=>
                     cases hsk
                   | 21,ho,hsk=>
                     cases hsk
                   | 22,ho,hsk=>
                     cases hsk
                   | 23,ho,hsk=>
                     cases hsk
                   | 24,ho,hsk=>
                     cases hsk
                   | 25,ho,hsk=>
                     cases hsk
                   | 26,ho,hsk=>
                     obtain rfl:=Oj9 ho
                     have e0:a'.eval (.tmp 205)= .bool false:=is_tq (hin 17 205 (by kernel_rfl) (by kernel_rfl)) rfl
                     exact o_pickN (.tmp 205) (.tmp 213) rfl e0 (tE rfl)
                   | 27,ho,hsk=>
                     obtain rfl:=Oj9 ho
                     have e0:a'.eval (.tmp 201)= .bool false:=is_tq (hin 13 201 (by kernel_rfl) (by kernel_rfl)) rfl
                     have e1:a'.eval (.tmp 214)= .bool false:=is_tq (hin 26 214 (by kernel_rfl) (by kernel_rfl)) rfl
                     exact o_pickOr0 (.tmp 201) (.tmp 214) rfl _ e0 e1 (tE rfl)
                 intro w9 hk9
                 replace hk9:Kept [] wr w9:=⟨hk9.os,hk9.tape,hk9.output,hk9.size,hk9.block⟩
                 simp only [valsQ,List.map_cons,List.map_nil,Option.getD_some,Option.getD_none,List.take_succ_cons,List.take_zero,putAll,Act.put,List.setIfInBounds_toArray,List.set_cons_succ,List.set_cons_zero]
                 refine wpAny_done (by kernel_rfl) ?_ _
                 replace HZ:=hide ((unhide HZ).step hk9)
                 clear hk9
                 go_wp2_with fail
                 go_roundw
                 case rel=>exact ⟨j+1,m,o,s,ln,by omega,by go_num,HZ⟩
                 case measure=>simp [intOf];omega
               · by_cases h2:kk=2
                 · subst h2
                   have D0:Hid (decide (m a=2)=true):=decide_eq_true ((unhide HD).2 rfl)
                   clear h1
                   go_wp2_with fail
                   refine wp_region_any mixed (wpAny_tq 28 rfl (by kernel_rfl) [some (P0 q),some (.int .i64 2),some (.bool false),some (.bool false),none,none,none,none,none,none,none,none,some (.bool false),some (.bool false),some (P0 q),some (.int .i64 2),some (.bool true),some (.bool true),some (P0 z),some (.pointer (some ⟨q,1,none⟩)),some (.int .i64 a),some (P0 z),some (.pointer (some ⟨z,1,none⟩)),some (.pointer (some ⟨z,1+a,none⟩)),some (.int .i64 (m a)),some (.bool false),some (.bool false),some (.bool false)] rfl (by kernel_rfl) (by kernel_rfl) ?_ ?_)
                   · intro i o' hi hsk ho a' w2 hout hin hk2
                     replace hk2:Kept [] wr w2:=⟨hk2.os,hk2.tape,hk2.output,hk2.size,hk2.block⟩
                     match i,ho,hsk with
                     | 0,ho,hsk=>
                       obtain rfl:=Oj9 ho
                       exact o_fld57_0 (.tmp 5) rfl q (0) (0) rfl ((hout 5 (by kernel_rfl)).trans rfl) (tE rfl)
                     | 1,ho,hsk=>
                       obtain rfl:=Oj9 ho
                       have e0:a'.eval (.tmp 188)=P0 q:=is_tq (hin 0 188 (by kernel_rfl) (by kernel_rfl)) rfl
                       exact o_load3 (.tmp 188) rfl _ _ e0 (fits_cell ((unhide HQ).kept hk2 (by simp)) 0 _ rfl) (tE rfl)
                     | 2,ho,hsk=>
                       obtain rfl:=Oj9 ho
                       have e0:a'.eval (.tmp 189)= .int .i64 2:=is_tq (hin 1 189 (by kernel_rfl) (by kernel_rfl)) rfl
                       exact c_eql3 (.tmp 189) (.const (.int .i64 (1))) rfl _ _ (false) (by decide) e0 rfl (tE rfl)
                     | 3,ho,hsk=>
                       obtain rfl:=Oj9 ho
                       have e0:a'.eval (.tmp 190)= .bool false:=is_tq (hin 2 190 (by kernel_rfl) (by kernel_rfl)) rfl
                       exact wp_move (.tmp 190) rfl _ e0 (tE rfl)
                     | 4,ho,hsk=>
                       cases hsk
                     | 5,ho,hsk=>
                       cases hsk
                     | 6,ho,hsk=>
                       cases hsk
                     | 7,ho,hsk=>
                       cases hsk
                     | 8,ho,hsk=>
                       cases hsk
                     | 9,ho,hsk=>
                       cases hsk
                     | 10,ho,hsk=>
                       cases hsk
                     | 11,ho,hsk=>
                       cases hsk
                     | 12,ho,hsk=>
                       obtain rfl:=Oj9 ho
                       have e0:a'.eval (.tmp 191)= .bool false:=is_tq (hin 3 191 (by kernel_rfl) (by kernel_rfl)) rfl
                       exact o_pickN (.tmp 191) (.tmp 199) rfl e0 (tE rfl)
                     | 13,ho,hsk=>
                       obtain rfl:=Oj9 ho
                       have e0:a'.eval (.tmp 200)= .bool false:=is_tq (hin 12 200 (by kernel_rfl) (by kernel_rfl)) rfl
                       exact wp_move (.tmp 200) rfl _ e0 (tE rfl)
                     | 14,ho,hsk=>
                       obtain rfl:=Oj9 ho
                       exact o_fld57_0 (.tmp 5) rfl q (0) (0) rfl ((hout 5 (by kernel_rfl)).trans rfl) (tE rfl)
                     | 15,ho,hsk=>
                       obtain rfl:=Oj9 ho
                       have e0:a'.eval (.tmp 202)=P0 q:=is_tq (hin 14 202 (by kernel_rfl) (by kernel_rfl)) rfl
                       exact o_load3 (.tmp 202) rfl _ _ e0 (fits_cell ((unhide HQ).kept hk2 (by simp)) 0 _ rfl) (tE rfl)
                     | 16,ho,hsk=>
                       obtain rfl:=Oj9 ho
                       have e0:a'.eval (.tmp 203)= .int .i64 2:=is_tq (hin 15 203 (by kernel_rfl) (by kernel_rfl)) rfl
                       exact c_eql3 (.tmp 203) (.const (.int .i64 (2))) rfl _ _ (true) (by decide) e0 rfl (tE rfl)
                     | 17,ho,hsk=>
                       obtain rfl:=Oj9 ho
                       have e0:a'.eval (.tmp 204)= .bool true:=is_tq (hin 16 204 (by kernel_rfl) (by kernel_rfl)) rfl
                       exact wp_move (.tmp 204) rfl _ e0 (tE rfl)
                     | 18,ho,hsk=>
                       obtain rfl:=Oj9 ho
                       exact wp_move (.tmp 3) rfl _ ((hout 3 (by kernel_rfl)).trans rfl) (tE rfl)
                     | 19,ho,hsk=>
                       obtain rfl:=Oj9 ho
                       exact o_fld57_1 (.tmp 5) rfl q (0) (1) rfl ((hout 5 (by kernel_rfl)).trans rfl) (tE rfl)
                     | 20,ho,hsk=>
                       obtain rfl:=Oj9 ho
                       have e0:a'.eval (.tmp 207)= .pointer (some ⟨q,1,none⟩):=is_tq (hin 19 207 (by kernel_rfl) (by kernel_rfl)) rfl
                       exact o_load3 (.tmp 207) rfl _ _ e0 (fits_cell ((unhide HQ).kept hk2 (by simp)) 1 _ rfl) (tE rfl)
                     | 21,ho,hsk=>
                       obtain rfl:=Oj9 ho
                       have e0:a'.eval (.tmp 206)=P0 z:=is_tq (hin 18 206 (by kernel_rfl) (by kernel_rfl)) rfl
                       exact o_nil (.tmp 206) rfl _ e0 (tE rfl)
                     | 22,ho,hsk=>
                       obtain rfl:=Oj9 ho
                       have e0:a'.eval (.tmp 209)=P0 z:=is_tq (hin 21 209 (by kernel_rfl) (by kernel_rfl)) rfl
                       exact o_fld55_1 (.tmp 209) rfl z (0) (1) rfl e0 (tE rfl)
                     | 23,ho,hsk=>
                       obtain rfl:=Oj9 ho
                       have e0:a'.eval (.tmp 210)= .pointer (some ⟨z,1,none⟩):=is_tq (hin 22 210 (by kernel_rfl) (by kernel_rfl)) rfl
                       have e1:a'.eval (.tmp 208)= .int .i64 a:=is_tq (hin 20 208 (by kernel_rfl) (by kernel_rfl)) rfl
                       exact o_idx53 (.tmp 210) (.tmp 208) rfl z (1) a (1+a) (by assumption) rfl e0 e1 (tE rfl)
                     | 24,ho,hsk=>
                       obtain rfl:=Oj9 ho
                       have e0:a'.eval (.tmp 211)= .pointer (some ⟨z,1+a,none⟩):=is_tq (hin 23 211 (by kernel_rfl) (by kernel_rfl)) rfl
                       exact o_load31 (.tmp 211) rfl _ _ e0 (fits_cell ((unhide HZ).step hk2).nk.zb (1+a) _ (nd_m _ _ _ a (by assumption))) (tE rfl)
                     | 25,ho,hsk=>
                       obtain rfl:=Oj9 ho
                       have e0:a'.eval (.tmp 212)= .int .i64 (m a):=is_tq (hin 24 212 (by kernel_rfl) (by kernel_rfl)) rfl
                       exact c_neq31 (.tmp 212) (.const (.int .i64 (2))) rfl _ _ (true) (unhide D0) e0 rfl (tE rfl)
                     | 26,ho,hsk=>
                       obtain rfl:=Oj9 ho
                       have e0:a'.eval (.tmp 205)= .bool true:=is_tq (hin 17 205 (by kernel_rfl) (by kernel_rfl)) rfl
                       have e1:a'.eval (.tmp 213)= .bool false:=is_tq (hin 25 213 (by kernel_rfl) (by kernel_rfl)) rfl
                       exact o_pick (.tmp 205) (.tmp 213) rfl _ e0 e1 (tE rfl)
                     | 27,ho,hsk=>
                       obtain rfl:=Oj9 ho
                       have e0:a'.eval (.tmp 201)= .bool false:=is_tq (hin 13 201 (by kernel_rfl) (by kernel_rfl)) rfl
                       have e1:a'.eval (.tmp 214)= .bool false:=is_tq (hin 26 214 (by kernel_rfl) (by kernel_rfl)) rfl
                       exact o_pickOr0 (.tmp 201) (.tmp 214) rfl _ e0 e1 (tE rfl)
                   intro w9 hk9
                   replace hk9:Kept [] wr w9:=⟨hk9.os,hk9.tape,hk9.output,hk9.size,hk9.block⟩
                   simp only [valsQ,List.map_cons,List.map_nil,Option.getD_some,Option.getD_none,List.take_succ_cons,List.take_zero,putAll,Act.put,List.setIfInBounds_toArray,List.set_cons_succ,List.set_cons_zero]
                   refine wpAny_done (by kernel_rfl) ?_ _
                   replace HZ:=hide ((unhide HZ).step hk9)
                   clear hk9
                   go_wp2_with fail
                   go_roundw
                   case rel=>exact ⟨j+1,m,o,s,ln,by omega,by go_num,HZ⟩
                   case measure=>simp [intOf];omega
                 · have D1:Hid (decide (kk=1)=false):=decide_eq_false h1
                   have D2:Hid (decide (kk=2)=false):=decide_eq_false h2
                   clear h1 h2
                   go_wp2_with fail
                   refine wp_region_any mixed (wpAny_tq 28 rfl (by kernel_rfl) [some (P0 q),some (.int .i64 kk),some (.bool false),some (.bool false),none,none,none,none,none,none,none,none,some (.bool false),some (.bool false),some (P0 q),some (.int .i64 kk),some (.bool false),some (.bool false),none,none,none,none,none,none,none,none,some (.bool false),some (.bool false)] rfl (by kernel_rfl) (by kernel_rfl) ?_ ?_)
                   · intro i o' hi hsk ho a' w2 hout hin hk2
                     replace hk2:Kept [] wr w2:=⟨hk2.os,hk2.tape,hk2.output,hk2.size,hk2.block⟩
                     match i,ho,hsk with
                     | 0,ho,hsk=>
                       obtain rfl:=Oj9 ho
                       exact o_fld57_0 (.tmp 5) rfl q (0) (0) rfl ((hout 5 (by kernel_rfl)).trans rfl) (tE rfl)
                     | 1,ho,hsk=>
                       obtain rfl:=Oj9 ho
                       have e0:a'.eval (.tmp 188)=P0 q:=is_tq (hin 0 188 (by kernel_rfl) (by kernel_rfl)) rfl
                       exact o_load3 (.tmp 188) rfl _ _ e0 (fits_cell ((unhide HQ).kept hk2 (by simp)) 0 _ rfl) (tE rfl)
                     | 2,ho,hsk=>
                       obtain rfl:=Oj9 ho
                       have e0:a'.eval (.tmp 189)= .int .i64 kk:=is_tq (hin 1 189 (by kernel_rfl) (by kernel_rfl)) rfl
                       exact c_eql3 (.tmp 189) (.const (.int .i64 (1))) rfl _ _ (false) (unhide D1) e0 rfl (tE rfl)
                     | 3,ho,hsk=>
                       obtain rfl:=Oj9 ho
                       have e0:a'.eval (.tmp 190)= .bool false:=is_tq (hin 2 190 (by kernel_rfl) (by kernel_rfl)) rfl
                       exact wp_move (.tmp 190) rfl _ e0 (tE rfl)
                     | 4,ho,hsk=>
                       cases hsk
                     | 5,ho,hsk=>
                       cases hsk
                     | 6,ho,hsk=>
                       cases hsk
                     | 7,ho,hsk=>
                       cases hsk
                     | 8,ho,hsk=>
                       cases hsk
                     | 9,ho,hsk=>
                       cases hsk
                     | 10,ho,hsk=>
                       cases hsk
                     | 11,ho,hsk=>
                       cases hsk
                     | 12,ho,hsk=>
                       obtain rfl:=Oj9 ho
                       have e0:a'.eval (.tmp 191)= .bool false:=is_tq (hin 3 191 (by kernel_rfl) (by kernel_rfl)) rfl
                       exact o_pickN (.tmp 191) (.tmp 199) rfl e0 (tE rfl)
                     | 13,ho,hsk=>
                       obtain rfl:=Oj9 ho
                       have e0:a'.eval (.tmp 200)= .bool false:=is_tq (hin 12 200 (by kernel_rfl) (by kernel_rfl)) rfl
                       exact wp_move (.tmp 200) rfl _ e0 (tE rfl)
                     | 14,ho,hsk=>
                       obtain rfl:=Oj9 ho
                       exact o_fld57_0 (.tmp 5) rfl q (0) (0) rfl ((hout 5 (by kernel_rfl)).trans rfl) (tE rfl)
                     | 15,ho,hsk=>
                       obtain rfl:=Oj9 ho
                       have e0:a'.eval (.tmp 202)=P0 q:=is_tq (hin 14 202 (by kernel_rfl) (by kernel_rfl)) rfl
                       exact o_load3 (.tmp 202) rfl _ _ e0 (fits_cell ((unhide HQ).kept hk2 (by simp)) 0 _ rfl) (tE rfl)
                     | 16,ho,hsk=>
                       obtain rfl:=Oj9 ho
                       have e0:a'.eval (.tmp 203)= .int .i64 kk:=is_tq (hin 15 203 (by kernel_rfl) (by kernel_rfl)) rfl
                       exact c_eql3 (.tmp 203) (.const (.int .i64 (2))) rfl _ _ (false) (unhide D2) e0 rfl (tE rfl)
                     | 17,ho,hsk=>
                       obtain rfl:=Oj9 ho
                       have e0:a'.eval (.tmp 204)= .bool false:=is_tq (hin 16 204 (by kernel_rfl) (by kernel_rfl)) rfl
                       exact wp_move (.tmp 204) rfl _ e0 (tE rfl)
                     | 18,ho,hsk=>
                       cases hsk
                     | 19,ho,hsk=>
                       cases hsk
                     | 20,ho,hsk=>
                       cases hsk
                     | 21,ho,hsk=>
                       cases hsk
                     | 22,ho,hsk=>
                       cases hsk
                     | 23,ho,hsk=>
                       cases hsk
                     | 24,ho,hsk=>
                       cases hsk
                     | 25,ho,hsk=>
                       cases hsk
                     | 26,ho,hsk=>
                       obtain rfl:=Oj9 ho
                       have e0:a'.eval (.tmp 205)= .bool false:=is_tq (hin 17 205 (by kernel_rfl) (by kernel_rfl)) rfl
                       exact o_pickN (.tmp 205) (.tmp 213) rfl e0 (tE rfl)
                     | 27,ho,hsk=>
                       obtain rfl:=Oj9 ho
                       have e0:a'.eval (.tmp 201)= .bool false:=is_tq (hin 13 201 (by kernel_rfl) (by kernel_rfl)) rfl
                       have e1:a'.eval (.tmp 214)= .bool false:=is_tq (hin 26 214 (by kernel_rfl) (by kernel_rfl)) rfl
                       exact o_pickOr0 (.tmp 201) (.tmp 214) rfl _ e0 e1 (tE rfl)
                   intro w9 hk9
                   replace hk9:Kept [] wr w9:=⟨hk9.os,hk9.tape,hk9.output,hk9.size,hk9.block⟩
                   simp only [valsQ,List.map_cons,List.map_nil,Option.getD_some,Option.getD_none,List.take_succ_cons,List.take_zero,putAll,Act.put,List.setIfInBounds_toArray,List.set_cons_succ,List.set_cons_zero]
                   refine wpAny_done (by kernel_rfl) ?_ _
                   replace HZ:=hide ((unhide HZ).step hk9)
                   clear hk9
                   go_wp2_with fail
                   go_roundw
                   case rel=>exact ⟨j+1,m,o,s,ln,by omega,by go_num,HZ⟩
                   case measure=>simp [intOf];omega
         | cons x T1=>
           obtain⟨k,rfl⟩:∃k',k=k'+1:=⟨k-1,by have:T1.length+1≤k:=hle;omega⟩
           have hnT:nT=T1.length+1:=(unhide HLL).symm
           have hfs:=Fl.step (unhide HL).fl
           have hre:x.k≠6→rightB (doP m o s x).1=true:=fun _=>hfs.f.sy.right hfs.f.jv.jc
           have P23:=hide (does23 x hfs.t hfs.n hfs.kk hre wr (unhide HL).nk (by omega))
           have hop:=doP_op m o s x
           have hop1:=(unhide HL).nk.gd.op1
           obtain⟨p,hp⟩:∃p,p=doP m o s x:=⟨_,rfl⟩
           have hf1:=hfs.l
           have hf2:=hfs.f
           rw [← hp] at hf1 hf2 hop
           obtain⟨m1,o1,s1,L1,O1⟩:=p
           simp only at hf1 hf2 hop
           subst hf1
           have HP:=hide hp
           have HFL:=hide hf2
           have HOP:Hid (s1.op≤((j+1:Nat):Int)):=by show s1.op≤_;rw [hop];simpa using hop1
           have HLN:Hid ((T1++O1).length≤k∧T1.length+O1.length=(T1++O1).length∧k≤10):=⟨hf2.len,by simp,by omega⟩
           have HNT:=hide hnT
           have HN1:Hid (1≤nT):=by show 1≤nT;omega
           have hd1:decide ((nT:Int)>0)=true:=by simp;omega
           have hd2:decide ((0:Int)<(nT:Int))=true:=by simp;omega
           have hd3:decide ((n:Int)>100)=false:=by simp;omega
           have hd5:decide (0<nT)=true:=by simp;omega
           have hd4:decide ((100:Int)<(n:Int))=false:=by simp;omega
           replace HTL:Hid (Ou w wr (.slice vo nT vc) (x::T1)):=by have h9:=unhide HTL;rw [hnT];exact h9
           replace HCC:Hid (nT≤vc∧(vo=none→nT=0∧vc=0)):=by have h9:=unhide HCC;rw [hnT];exact h9
           clear hp hf2 hop hop1 hfs hre hle hnT
           go_wp2_with (first |(refine wpIdxO rfl (.tmp 120) (.const (.int .i64 0)) rfl (.slice vo nT vc) (x::T1) 0 x rfl rfl (unhide HTL).row rfl ?_;intro g9 o9 HR9;refine Stp.go ?_))
           constructor
           go_wp2_with (first |(refine wpLoadA row65 rfl (.tmp 121) rfl g9 o9 rfl x.C rfl HR9 ?_;clear HR9;refine Stp.go ?_))
           constructor
           go_wp2_with (
             first
             | (go_at_call 23
                refine(unhide P23).mono ?_
                rintro e W4 ⟨v4,ln4,rfl,O4,N4,K4⟩
                have HR4:Hid (Os W4 (restV 6 vo nT vc 1) T1):=Os.rest1 ((unhide HTL).row.kept K4 ((unhide HL).nk.farO (unhide HTL).row (by decide) (by decide) (by decide))) (unhide HNT)
                have HQ4:Hid (Blk W4 q 57 (Ak.C ⟨kk,a⟩)):=(unhide HL).qb.kept K4 ((unhide HL).nk.farB (unhide HL).qb (by decide) (by decide) (by decide))
                have HO4:Hid (Os W4 v4 O1):=by have h9:=O4.row;rw [← unhide HP] at h9;exact h9
                have HN4:Hid (Nk (j+1) w W4 z b m1 o1 s1 [] ln4):=by
                  have h9:=N4
                  rw [← unhide HP] at h9
                  exact h9.tight (by have h8:=unhide HOP;exact h8)
                clear O4 N4 K4 HTL HL P23
                refine Stp.go ?_))
           constructor
           go_wp2_with (first |(refine wpRestO rfl (.tmp 132) rfl vo nT vc (unhide HCC).1 (unhide HCC).2 (unhide HN1) rfl ?_;refine Stp.go ?_))
           constructor
           go_wp2_with (first |(refine wpAppN el28 rfl (.const (.slice none 0 0)) (.tmp 133) rfl (.slice none 0 0) _ _ rfl (New.nil w _ _ _) (restV 6 vo nT vc 1) T1.length (odC T1) rfl (unhide HR4) (odC_one _) (by have:=unhide HLN;omega) (max1000 (by have:=unhide HLN;omega)) (unhide HN4).kept.size ?_;intro v5 W5 N5 K5;replace K5:Kept [] W4 W5:=K5;replace HN4:=hide ((unhide HN4).step K5);replace HQ4:Hid (Blk W5 q 57 (Ak.C ⟨kk,a⟩)):=(unhide HQ4).kept K5 (by simp);replace HO4:Hid (Os W5 v4 O1):=(unhide HO4).kept K5 (by simp);have HN5:Hid (Ou w W5 v5 T1):=(by have h9:=N5;rw [Nat.zero_add,List.nil_append] at h9;exact h9);clear N5 K5 HR4;refine Stp.go ?_))
           constructor
           go_wp2_with (first |(refine wpAppN el28 rfl (.tmp 134) (.tmp 135) rfl v5 _ _ rfl (unhide HN5) v4 O1.length (odC O1) rfl (unhide HO4) (odC_one _) (by have:=unhide HLN;omega) (max1000 (by have:=unhide HLN;omega)) (unhide HN4).kept.size ?_;intro v6 W6 N6 K6;have HL6:Hid (Lr w W6 z b (j+1) m1 o1 s1 ln4 q ⟨kk,a⟩ v6 (T1++O1) tg k):=⟨(unhide HN4).rowO (unhide HN5) K6,(unhide HQ4).kept K6 (fun hb=>Rw.ne (unhide HN5).row (unhide HQ4) (by decide) q (spare_own hb) (by simp)),New.app N6,unhide HFL⟩;clear N6 K6 HN4 HQ4 HO4 HN5 HFL;refine Stp.go ?_))
           constructor
           go_wp2_with fail
           go_roundw
           case rel=>exact ⟨m1,o1,s1,ln4,T1++O1,k,n+1,by omega,by go_num,HL6⟩
           case measure=>simp [intOf];omega
   · obtain rfl:j=X.length:=by omega
     have hd:decide ((X.length:Int)<(X.length:Int))=false:=by simp
     have HK:Hid (Kept [] w wr):=(unhide HS).nk.kept
     go_wp2_with (first |(go_at_call 9;refine(known9 _).mono ?_;rintro e W99 ⟨rfl,K99⟩;replace HK:=hide ((unhide HK).trans K99);refine Stp.go ?_))
     constructor
     go_wp2_with fail
     go_ret
     exact⟨rfl,unhide HK⟩
theorem once4 (ao:Option Addr) (c0:Nat) (X:List Ak) (w:World) (hX:RowS Ak.C 2 w ao X):Calls Try.prog 4 #[.slice ao X.length c0] w fun x w'=>x= .returned (.bool true)∧Kept [] w w':=by
 cases hl:decide ((100:Int)<(X.length:Int)) with
 | true=>exact once_a ao c0 X w hl
 | false=>exact once_b ao c0 X w hl hX
end Go.Proofs.Ytabicgbnloabnaa
