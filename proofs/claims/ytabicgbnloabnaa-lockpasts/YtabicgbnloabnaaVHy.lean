import Derived.Test.YtabicgbnloabnaaVHa
import Derived.Test.YtabicgbnloabnaaVPg
import Derived.Test.YtabicgbnloabnaaVHl
import Derived.Test.YtabicgbnloabnaaVHc
import Derived.Test.YtabicgbnloabnaaVFr
import Derived.Deep.CutBlock
namespace Go.Proofs.Ytabicgbnloabnaa
set_option maxRecDepth 100000
set_option linter.unusedSimpArgs false
open Go.RowKit
structure Ly (w W:World) (b c j:Nat) (s:Lo) (L:List Wi) (ln lr:Value) (pb:Nat) (f:Nat→Bool):Prop where
 lp:Lp ⟨w,[]⟩ W b c j s L ln lr
 k2:K2 s
 ar:Blk W pb 45 (b8 f)
 ps:∀n,n<8→f n=true→s.pa n=true
 pw:w.heap.size≤pb
variable {w W W':World} {b c j:Nat} {s:Lo} {L:List Wi} {ln lr:Value} {pb:Nat} {f:Nat→Bool}
theorem Ly.step (h:Ly w W b c j s L ln lr pb f) (hk:Kept [] W W'):Ly w W' b c j s L ln lr pb f:=⟨h.lp.step hk,h.k2,h.ar.kept hk (by simp),h.ps,h.pw⟩
structure Lz (w W:World) (b c j:Nat) (s1:Lo) (L1:List Wi) (ln1 lr1:Value) (pb:Nat) (f:Nat→Bool) (s:Lo) (L:List Wi) (q7 q10:Nat) (x y z x1 y1 z1 v:Value) (O:List Od):Prop where
 lp:Lp ⟨w,[]⟩ W b c j s1 L1 ln1 lr1
 k2:K2 s1
 ar:Blk W pb 45 (b8 f)
 pw:w.heap.size≤pb
 b7:Blk W q7 43 ((s.book L).C x y z)
 b10:Blk W q10 43 ((s1.book L1).C x1 y1 z1)
 py:Is W y1 (lst s1.pa)
 out:Os W v O
theorem Lz.step {s1:Lo} {L1:List Wi} {ln1 lr1:Value} {q7 q10:Nat} {x y z x1 y1 z1 v:Value} {O:List Od} (h:Lz w W b c j s1 L1 ln1 lr1 pb f s L q7 q10 x y z x1 y1 z1 v O) (hk:Kept [] W W'):Lz w W' b c j s1 L1 ln1 lr1 pb f s L q7 q10 x y z x1 y1 z1 v O:=
 ⟨h.lp.step hk,h.k2,h.ar.kept hk (by simp),h.pw,h.b7.kept hk (by simp),h.b10.kept hk (by simp),h.py.kept hk (by simp),h.out.kept hk (by simp)⟩
theorem Lz.put {s1:Lo} {L1:List Wi} {ln1 lr1:Value} {q7 q10:Nat} {x y z x1 y1 z1 v:Value} {O:List Od} {g:Nat→Bool} (h:Lz w W b c j s1 L1 ln1 lr1 pb f s L q7 q10 x y z x1 y1 z1 v O) (hk:Kept [pb] W W') (hB:Blk W' pb 45 (b8 g)):Lz w W' b c j s1 L1 ln1 lr1 pb g s L q7 q10 x y z x1 y1 z1 v O:=by
 have h7:q7∉ [pb]:=by intro e;simp at e;subst e;exact absurd (h.b7.type2 h.ar) (by decide)
 have h10:q10∉ [pb]:=by intro e;simp at e;subst e;exact absurd (h.b10.type2 h.ar) (by decide)
 have hd:=h.lp.st.du
 have hb:b∉ [pb]:=by intro e;simp at e;subst e;exact absurd (hd.sb.type2 h.ar) (by decide)
 have hc:c∉ [pb]:=by intro e;simp at e;subst e;exact absurd (hd.rb.type2 h.ar) (by decide)
 exact⟨⟨⟨⟨hd.sb.kept hk hb,hd.sw.kept hk (Rw.ne hd.sw h.ar (by decide)),hd.rb.kept hk hc,hd.rr.kept hk (Rw.ne hd.rr h.ar (by decide)),hd.b0,hd.c0,hd.l0,hd.r0,hd.ap,hd.kept.fresh hk (fun i hi hl=>by simp at hi;subst hi;exact absurd h.pw (Nat.not_le.2 hl))⟩,h.lp.st.gd,h.lp.st.gr,h.lp.st.iv,h.lp.st.bz⟩,h.lp.jv⟩,h.k2,hB,h.pw,h.b7.kept hk h7,h.b10.kept hk h10,h.py.kept hk (Rw.ne h.py h.ar (by decide)),h.out.kept hk (Rw.ne h.out h.ar (by decide))⟩
theorem b8_put (f:Nat→Bool) (n:Nat) (h:n<8) (v:Bool):(b8 f).set n (.bool v)=b8 (upd f n v):=by
 match n,h with
 | 0,_ | 1,_ | 2,_ | 3,_ | 4,_ | 5,_ | 6,_ | 7,_=>rfl
theorem zero45p (w:World):(Instr.alloc 45 true (.tuple #[])).run Try.prog w= .ok (P0 w.heap.size) (w.alloc (.cells (b8 no8).toArray 45)):=by kernel_rfl
section
variable {ops:Array Oper} {rest:List Oper} {op o:Oper} {a:Act} {w:World} {K:Act→World→Prop} {Q:Exit→Act→World→Prop}
theorem wpStB {T:Nat} (hs:(Try.prog.info? T).map (·.size)=some 1) (hgd:op.guard=none) (x y:Operand) (ho:op.op= .store T x y) (hd:op.dst=none) (b off:Nat) (v:Value) (h1:One v) (hx:a.eval x= .pointer (some ⟨b,off,none⟩)) (hy:a.eval y=v) {TT:Nat} {us us':List Value} (hB:Blk w b TT us) (hl:off<us.length) (he:us.set off v=us')
   (h:∀W,Blk W b TT us'→Kept [b] w W→wpList Try.prog ops Q rest a W):wpList Try.prog ops Q (op::rest) a w:=
 wpList_plain hgd fun _ hK=>o_stB hs x y ho hd b off v h1 hx hy hB hl he (fun W h2 h3=>hK _ _ (h W h2 h3))
theorem wpIdx36G (x y:Operand) (ho:op.op= .indexAddr 36 x y) (hw:Region.wanted op (yielded ops a.tmps)=true) (g off n c j:Nat) (hj:j<n) (hx:a.eval x= .slice (some ⟨g,off,none⟩) n c) (hy:a.eval y= .int .i64 j) (h:wpList Try.prog ops Q rest (a.put op.dst (.pointer (some ⟨g,off+j,none⟩))) w):wpList Try.prog ops Q (op::rest) a w:=
 BigFrame.wpList_want hw fun _ hK=>o_idx36n x y ho g off n c j hj hx hy (hK _ _ h)
theorem o_idx22n (x y:Operand) (ho:o.op= .indexAddr 22 x y) (g off n c j:Nat) (hj:j<n) (hx:a.eval x= .slice (some ⟨g,off,none⟩) n c) (hy:a.eval y= .int .i64 j) (h:K (a.put o.dst (.pointer (some ⟨g,off+j*5,none⟩))) w):o.wp Try.prog a w K Q:=by
 have hjI:(j:Int)<n:=by omega
 unfold Oper.wp execOp
 simp only [ho,hx,hy]
 simp [go_sem,hj,hjI]
 exact h
end
set_option maxHeartbeats 2000000 in
theorem pasts_a (ao:Option Addr) (c0:Nat) (X:List Sp) (w:World) (hl:decide ((200:Int)<(X.length:Int))=true):Calls Try.prog 7 #[.slice ao X.length c0] w fun x w'=>x= .returned (.bool true)∧Kept [] w w':=by
 go_enter Try.func7,Try.ntmps7
 go_wp2_with (first |(go_at_call 9;refine(known9 _).mono ?_;rintro e W99 ⟨rfl,K99⟩;refine Stp.go ?_))
 constructor
 go_wp2_with fail
 go_ret
 exact⟨rfl,K99⟩
def Cd (s s1:Lo) (x:Sp):Prop:=0≤s.ow∧0≤s1.ow∧¬s.ow=s1.ow∧x.k=4∧¬s.ex=s1.ex
instance (s s1:Lo) (x:Sp):Decidable (Cd s s1 x):=by unfold Cd;exact inferInstance
def Cl (s:Lo) (O:List Od) (k:Nat) (f:Nat→Bool):Prop:=∀n,n<8→f n=true→s.pa n=true∧∀o∈O.take k,¬(o.k=6∧o.t=(n:Int))
theorem Cl.zero {s:Lo} {O:List Od} {f:Nat→Bool} (h:∀n,n<8→f n=true→s.pa n=true):Cl s O 0 f:=fun n hn hf=>⟨h n hn hf,fun o ho=>by simp at ho⟩
theorem Cl.no {s:Lo} {O:List Od} {k:Nat} {f:Nat→Bool} {o:Od} (h:Cl s O k f) (ho:O[k]?=some o) (hk:¬o.k=6):Cl s O (k+1) f:=by
 intro n hn hf
 obtain⟨h1,h2⟩:=h n hn hf
 refine⟨h1,fun q hq=> ?_⟩
 rw [List.take_add_one,ho] at hq
 rcases List.mem_append.1 hq with h3 | h3
 · exact h2 q h3
 · simp at h3;subst h3;exact fun e=>hk e.1
theorem Cl.yes {s:Lo} {O:List Od} {k m:Nat} {f:Nat→Bool} {o:Od} (h:Cl s O k f) (ho:O[k]?=some o) (hm:o.t=(m:Int)):Cl s O (k+1) (upd f m false):=by
 intro n hn hf
 by_cases e:n=m
 · subst e;rw [updYes] at hf;cases hf
 · rw [updNo _ _ e] at hf
   obtain⟨h1,h2⟩:=h n hn hf
   refine⟨h1,fun q hq=> ?_⟩
   rw [List.take_add_one,ho] at hq
   rcases List.mem_append.1 hq with h3 | h3
   · exact h2 q h3
   · simp at h3;subst h3;exact fun e2=>e (by have:=e2.2;omega)
theorem Cl.end {s s1:Lo} {O:List Od} {f:Nat→Bool} (h:Cl s O O.length f) (hp:Ps s s1 O):∀n,n<8→f n=true→s1.pa n=true:=by
 intro n hn hf
 obtain⟨h1,h2⟩:=h n hn hf
 rw [List.take_length] at h2
 rcases hp.pa n hn h1 with h3 | ⟨o,ho,h4⟩
 · exact h3
 · exact absurd h4 (h2 o ho)
set_option maxHeartbeats 16000000 in
theorem pasts_b (ao:Option Addr) (c0:Nat) (X:List Sp) (w:World) (hl:decide ((200:Int)<(X.length:Int))=false) (hX:RowS Sp.C 5 w ao X):Calls Try.prog 7 #[.slice ao X.length c0] w fun x w'=>x= .returned (.bool true)∧Kept [] w w':=by
 have HX:=hide hX
 have hlen:(X.length:Int)≤200:=by have:=of_decide_eq_false hl;omega
 clear hX
 go_enter Try.func7,Try.ntmps7
 go_wp2_with (first |(go_at_call 10;refine(new10 _).mono ?_;rintro e W1 ⟨b,rfl,hb1,hB1,K1⟩;have HN1:=hide (And.intro hb1 (And.intro hB1 K1));clear hb1 hB1 K1;refine Stp.go ?_))
 constructor
 go_wp2_with (first |(go_at_call 11;refine(rnew11 _).mono ?_;rintro e W2 ⟨c,rfl,hc2,hC2,K2⟩;have HS0:Hid (Lp ⟨w,[]⟩ W2 b c 0 lo0 [] _ _):=⟨St.new (unhide HN1).1 (unhide HN1).2.1 (unhide HN1).2.2 hc2 hC2 K2,lo0_jv⟩;clear HN1 hc2 hC2 K2;refine Stp.go ?_))
 constructor
 go_wp2_with (first |(refine wpAllocW (b8 no8) zero45p 5 rfl rfl rfl ?_;intro W3 pb e3 B3 K3;have HS:Hid (Ly w W3 b c 0 lo0 [] _ _ pb no8):=⟨(unhide HS0).step K3,k2_no (by decide),B3,(fun n _ h=>by cases h),by have h9:=(unhide HS0).st.du.kept.size;have h8:w.heap.size≤W2.heap.size:=h9;omega⟩;clear HS0 e3 B3 K3;refine Stp.go ?_))
 constructor
 go_wp2_with fail
 go_loopw [6] (fun xi wr=>∃(j:Nat) (s:Lo) (L:List Wi) (ln lr:Value) (f:Nat→Bool),j≤X.length∧xi= .int .i64 j∧Hid (Ly w wr b c j s L ln lr pb f)) (fun i _=>X.length-(intOf i).toNat)
 case atStart=>exact ⟨0,lo0,[],_,_,no8,by omega,rfl,HS⟩
 case round=>
   clear HS
   obtain⟨j,s,L,ln,lr,f,hj,rfl,HS⟩:=hrel
   by_cases hlt:j<X.length
   · have hd:decide ((j:Int)<(X.length:Int))=true:=by simp;omega
     obtain⟨sp,hsp⟩:∃x,X[j]?=some x:=⟨_,List.getElem?_eq_getElem hlt⟩
     have HSP:=hide hsp
     obtain⟨sb,so,hao,hcs⟩:=unhide HX j sp hsp
     subst hao
     have HCS:Hid (w.cell? ⟨sb,so+j*5,none⟩=some (.int .i64 sp.k)):=hcs 0 _ rfl
     have hsim:=pdo_sim (unhide HS).lp.jv (unhide HS).lp.st.gd.all sp
     have HPX:=hide (pdo_ps (unhide HS).lp.st.gd.ok (unhide HS).lp.st.gd.all s.abs sp)
     have HK1:=hide (pdo_k2 (L:=L) (unhide HS).k2 s.abs sp)
     have HGP:=hide (fun m c h0 hne=>got_past (L:=L) (m:=m) (c:=c) (unhide HS).lp.jv (unhide HS).k2 h0 hne)
     have HPS:=hide (unhide HS).ps
     obtain⟨p1,hp⟩:∃p,p=pdo s L s.abs sp:=⟨_,rfl⟩
     have HRD:=hide hsim.1
     have HJ1:=hide hsim.2
     have hgp:sp.k=4→0≤s.ow→¬s.ow=p1.1.ow→p1.1.pa s.ow.toNat=true:=by
       intro h4 h0 hne
       rw [hp] at hne⊢
       unfold pdo at hne⊢
       rw [if_neg (by omega),if_neg (by omega),if_neg (by omega),if_pos h4] at hne⊢
       exact unhide HGP _ _ h0 hne
     rw [← hp] at HPX HK1 HJ1
     have HP:=hide hp
     obtain⟨s1,L1,O1⟩:=p1
     have HSO:Hid (-1≤s.ow∧s.ow<8):=(unhide HS).lp.st.gd.ok.ow
     have HLT:=hide hlt
     have HGQ:Hid (sp.k=4→0≤s.ow→¬s.ow=s1.ow→s1.pa s.ow.toNat=true):=hgp
     clear hp hsim hsp hcs hgp HGP
     go_wp2_with (first |(go_at_call 15;refine(book15 s ln b L _ (unhide HS).lp.st.du.sb (unhide HS).lp.st.du.sw (unhide HS).lp.st.gd.ok.ex (by have:=(unhide HS).lp.st.gd.len;omega)).mono ?_;rintro e W4 ⟨x,y,z,rfl,hB4,K4⟩;replace HS:=hide ((unhide HS).step K4);have HB4:=hide hB4;clear hB4 K4;refine Stp.go ?_))
     constructor
     go_wp2_with (first |(refine wpNew row43 bz43 rfl zero43 7 rfl rfl rfl (.tmp 28) rfl rfl rfl ((s.book L).C x y z) rfl (BoC_one (unhide HB4)) (by kernel_rfl) (by kernel_rfl) ?_;intro W5 q7 e5 B5 K5;replace HS:=hide ((unhide HS).step K5);have H7:=hide B5;clear e5 B5 K5 HB4;refine Stp.go ?_))
     constructor
     go_wp2_with (first |(refine wpIdx22 rfl (.tmp 32) (.tmp 33) rfl (some ⟨sb,so,none⟩) c0 X j sp rfl rfl ((unhide HX).kept (unhide HS).lp.st.du.kept) (unhide HSP) ?_;intro g o9 HR9;refine Stp.go ?_))
     constructor
     go_wp2_with (first |(refine wpLoadA row33 rfl (.tmp 34) rfl g o9 rfl sp.C rfl HR9 ?_;clear HR9;refine Stp.go ?_))
     constructor
     go_wp2_with (
       first
       | (go_at_call 12
          refine((unhide HS).lp.st.does2 (by omega) sp).mono ?_
          rintro e W6 ⟨v,v2,ln1,lr1,rfl,N6,_,hS6,K6⟩
          have hq7:=(unhide HS).lp.st.du.far (unhide H7) (by decide) (by decide) (by decide)
          have hqp:=(unhide HS).lp.st.du.far (unhide HS).ar (by decide) (by decide) (by decide)
          have HL:Hid (Lp ⟨w,[]⟩ W6 b c (j+1) s1 L1 ln1 lr1):=by
            have h9:=hS6
            rw [unhide HRD] at h9
            rw [← unhide HP] at h9
            exact⟨h9,unhide HJ1⟩
          have HPB:Hid (Blk W6 pb 45 (b8 f)):=(unhide HS).ar.kept K6 hqp
          replace H7:Hid (Blk W6 q7 43 ((s.book L).C x y z)):=(unhide H7).kept K6 hq7
          have HO:Hid (Os W6 v O1):=by have h9:=N6.row;rw [← unhide HP] at h9;exact h9
          have HPW:=hide (unhide HS).pw
          clear N6 hS6 K6 hq7 hqp HS HRD HP
          refine Stp.go ?_))
     constructor
     go_wp2_with (first |(go_at_call 15;refine(book15 s1 ln1 b L1 _ (unhide HL).st.du.sb (unhide HL).st.du.sw (unhide HL).st.gd.ok.ex (by have:=(unhide HL).st.gd.len;omega)).mono ?_;rintro e W7 ⟨x1,y1,z1,rfl,hB7,K7⟩;replace HL:=hide ((unhide HL).step K7);replace HPB:=hide ((unhide HPB).kept K7 (by simp));replace H7:=hide ((unhide H7).kept K7 (by simp));replace HO:Hid (Os W7 v O1):=(unhide HO).kept K7 (by simp);have HB7:=hide hB7;clear hB7 K7;refine Stp.go ?_))
     constructor
     go_wp2_with (first |(refine wpNew row43 bz43 rfl zero43 10 rfl rfl rfl (.tmp 40) rfl rfl rfl ((s1.book L1).C x1 y1 z1) rfl (BoC_one (unhide HB7)) (by kernel_rfl) (by kernel_rfl) ?_;intro W8 q10 e8 B8 K8;have HZ:Hid (Lz w W8 b c (j+1) s1 L1 ln1 lr1 pb f s L q7 q10 x y z x1 y1 z1 v O1):=⟨(unhide HL).step K8,unhide HK1,(unhide HPB).kept K8 (by simp),unhide HPW,(unhide H7).kept K8 (by simp),B8,(unhide HB7).pa.row.kept K8 (by simp),(unhide HO).kept K8 (by simp)⟩;clear e8 B8 K8 HB7 HO H7 HPB HL HPW HK1;refine Stp.go ?_))
     constructor
     have hO1:=(unhide HZ).out.le
     obtain⟨vo,vc,rfl,_,_⟩:=(unhide HZ).out.sl
     obtain⟨yo,yc,rfl,_,_⟩:=(unhide HZ).py.sl
     go_wp2_with fail
     go_loopw [11] (fun xk wr=>∃(k:Nat) (f1:Nat→Bool),k≤O1.length∧xk= .int .i64 k∧Hid (Cl s O1 k f1)∧Hid (Lz w wr b c (j+1) s1 L1 ln1 lr1 pb f1 s L q7 q10 x y z x1 (.slice yo (lst s1.pa).length yc) z1 (.slice vo O1.length vc) O1)) (fun xk _=>O1.length-(intOf xk).toNat)
     case atStart=>exact ⟨0,f,by omega,rfl,hide (Cl.zero (unhide HPS)),HZ⟩
     case round=>
       clear HZ
       obtain⟨k,f1,hk,rfl,HC,HZ⟩:=hrel
       by_cases hkl:k<O1.length
       · have hdk:decide ((k:Int)<(O1.length:Int))=true:=by simp;omega
         obtain⟨od,hod⟩:∃x,O1[k]?=some x:=⟨_,List.getElem?_eq_getElem hkl⟩
         have HOK:=hide hod
         by_cases h6:od.k=6
         · have htr:=(unhide HPX).tr od (List.mem_of_getElem? hod) h6
           obtain⟨m,hm⟩:∃m:Nat,od.t=(m:Int):=⟨od.t.toNat,by omega⟩
           have hm8:m<8:=by omega
           have hmI:(m:Int)<8:=by omega
           have HC2:=hide ((unhide HC).yes hod hm)
           have HM:=hide hm
           have h6a:=eqt_a h6
           have h6b:=eqt_b h6
           have h6c:=eqt_c h6
           clear h6 htr hm hod
           go_wp2_with (first |(refine wpIdxO rfl (.tmp 47) (.tmp 48) rfl (.slice vo O1.length vc) O1 k od rfl rfl (unhide HZ).out (unhide HOK) ?_;intro g9 o9 HR9;have cK:wr.cell? ⟨g9,o9,none⟩=some (.int .i64 od.k):=HR9 0 _ rfl;have cT:wr.cell? ⟨g9,o9+1,none⟩=some (.int .i64 od.t):=HR9 1 _ rfl;clear HR9;refine Stp.go ?_))
           constructor
           clear cT
           go_wp2_with (first |(refine wpIdxO rfl (.tmp 53) (.tmp 54) rfl (.slice vo O1.length vc) O1 k od rfl rfl (unhide HZ).out (unhide HOK) ?_;intro g9 o9 HR9;have cK:wr.cell? ⟨g9,o9,none⟩=some (.int .i64 od.k):=HR9 0 _ rfl;have cT:wr.cell? ⟨g9,o9+1,none⟩=some (.int .i64 od.t):=HR9 1 _ rfl;clear HR9;refine Stp.go ?_))
           constructor
           clear cK
           rw [unhide HM] at cT
           go_wp2_with (first |(refine wpStB size4 rfl (.tmp 58) (.const (.bool false)) rfl rfl pb m (.bool false) ⟨rfl,rfl⟩ rfl rfl (unhide HZ).ar (show m<8 from hm8) (b8_put f1 m hm8 false) ?_;intro W9 B9 K9;replace HZ:Hid (Lz w W9 b c (j+1) s1 L1 ln1 lr1 pb (upd f1 m false) s L q7 q10 x y z x1 (.slice yo (lst s1.pa).length yc) z1 (.slice vo O1.length vc) O1):=hide ((unhide HZ).put K9 B9);clear B9 K9 cT;refine Stp.go ?_))
           constructor
           go_wp2_with fail
           go_roundw
           case rel=>exact ⟨k+1,_,by omega,by go_num,HC2,HZ⟩
           case measure=>simp [intOf];omega
         · have HC2:=hide ((unhide HC).no hod h6)
           have h6a:=nef_a h6
           have h6b:=nef_b h6
           have h6c:=nef_c h6
           clear h6 hod
           go_wp2_with (first |(refine wpIdxO rfl (.tmp 47) (.tmp 48) rfl (.slice vo O1.length vc) O1 k od rfl rfl (unhide HZ).out (unhide HOK) ?_;intro g9 o9 HR9;have cK:wr.cell? ⟨g9,o9,none⟩=some (.int .i64 od.k):=HR9 0 _ rfl;have cT:wr.cell? ⟨g9,o9+1,none⟩=some (.int .i64 od.t):=HR9 1 _ rfl;clear HR9;refine Stp.go ?_))
           constructor
           clear cT
           go_wp2_with fail
           go_roundw
           case rel=>exact ⟨k+1,_,by omega,by go_num,HC2,HZ⟩
           case measure=>simp [intOf];omega
       · obtain rfl:k=O1.length:=by omega
         have hdk:decide ((O1.length:Int)<(O1.length:Int))=false:=by simp
         have HP1:Hid (∀n,n<8→f1 n=true→s1.pa n=true):=(unhide HC).end (unhide HPX)
         clear HC
         go_upto_region 17 with fail
         go_cut [88] from 21 to 119 (fun t wc=>t= .bool (decide (Cd s s1 sp))∧Hid (Lz w wc b c (j+1) s1 L1 ln1 lr1 pb f1 s L q7 q10 x y z x1 (.slice yo (lst s1.pa).length yc) z1 (.slice vo O1.length vc) O1))
         case first=>
           by_cases h0:0≤s.ow
           · have D0:Hid (decide (s.ow≥0)=true):=decide_eq_true h0
             by_cases h1:0≤s1.ow
             · have D1:Hid (decide (s1.ow≥0)=true):=decide_eq_true h1
               by_cases h2:s.ow=s1.ow
               · have D2:Hid (decide (s.ow=s1.ow)=true):=decide_eq_true h2
                 have HCD:Hid (¬Cd s s1 sp):=fun e=>e.2.2.1 h2
                 clear h0 h1 h2
                 refine wp_text_tq 30 rfl (by kernel_rfl) [some (.pointer (some ⟨q7,1,none⟩)),some (.int .i64 s.ow),some (.bool true),some (.bool true),some (.pointer (some ⟨q10,1,none⟩)),some (.int .i64 s1.ow),some (.bool true),some (.bool true),some (.bool true),some (.pointer (some ⟨q7,1,none⟩)),some (.int .i64 s.ow),some (.pointer (some ⟨q10,1,none⟩)),some (.int .i64 s1.ow),some (.bool false),some (.bool false),some (.bool false),none,none,none,none,none,none,some (.bool false),some (.bool false),none,none,none,none,none,some (.bool false)] rfl (by kernel_rfl) (by kernel_rfl) ?_ ?_
                 · intro i o' hi hsk ho a' w2 hout hin hk2
                   replace hk2:Kept [] wr w2:=⟨hk2.os,hk2.tape,hk2.output,hk2.size,hk2.block⟩
                   match i,ho,hsk with
                   | 0,ho,hsk=>
                     obtain rfl:=Oj9 ho
                     exact o_fld43_1 (.tmp 7) rfl q7 (0) (1) rfl ((hout 7 (by kernel_rfl)).trans rfl) (tE rfl)
                   | 1,ho,hsk=>
                     obtain rfl:=Oj9 ho
                     have e0:a'.eval (.tmp 59)= .pointer (some ⟨q7,1,none⟩):=is_tq (hin 0 59 (by kernel_rfl) (by kernel_rfl)) rfl
                     exact o_load3 (.tmp 59) rfl _ _ e0 (fits_cell ((unhide HZ).step hk2).b7 1 _ rfl) (tE rfl)
                   | 2,ho,hsk=>
                     obtain rfl:=Oj9 ho
                     have e0:a'.eval (.tmp 60)= .int .i64 s.ow:=is_tq (hin 1 60 (by kernel_rfl) (by kernel_rfl)) rfl
                     exact c_geq3 (.tmp 60) (.const (.int .i64 (0))) rfl _ _ (true) (unhide D0) e0 rfl (tE rfl)
                   | 3,ho,hsk=>
                     obtain rfl:=Oj9 ho
                     have e0:a'.eval (.tmp 61)= .bool true:=is_tq (hin 2 61 (by kernel_rfl) (by kernel_rfl)) rfl
                     exact wp_move (.tmp 61) rfl _ e0 (tE rfl)
                   | 4,ho,hsk=>
                     obtain rfl:=Oj9 ho
                     exact o_fld43_1 (.tmp 10) rfl q10 (0) (1) rfl ((hout 10 (by kernel_rfl)).trans rfl) (tE rfl)
                   | 5,ho,hsk=>
                     obtain rfl:=Oj9 ho
                     have e0:a'.eval (.tmp 63)= .pointer (some ⟨q10,1,none⟩):=is_tq (hin 4 63 (by kernel_rfl) (by kernel_rfl)) rfl
                     exact o_load3 (.tmp 63) rfl _ _ e0 (fits_cell ((unhide HZ).step hk2).b10 1 _ rfl) (tE rfl)
                   | 6,ho,hsk=>
                     obtain rfl:=Oj9 ho
                     have e0:a'.eval (.tmp 64)= .int .i64 s1.ow:=is_tq (hin 5 64 (by kernel_rfl) (by kernel_rfl)) rfl
                     exact c_geq3 (.tmp 64) (.const (.int .i64 (0))) rfl _ _ (true) (unhide D1) e0 rfl (tE rfl)
                   | 7,ho,hsk=>
                     obtain rfl:=Oj9 ho
                     have e0:a'.eval (.tmp 62)= .bool true:=is_tq (hin 3 62 (by kernel_rfl) (by kernel_rfl)) rfl
                     have e1:a'.eval (.tmp 65)= .bool true:=is_tq (hin 6 65 (by kernel_rfl) (by kernel_rfl)) rfl
                     exact o_pick (.tmp 62) (.tmp 65) rfl _ e0 e1 (tE rfl)
                   | 8,ho,hsk=>
                     obtain rfl:=Oj9 ho
                     have e0:a'.eval (.tmp 66)= .bool true:=is_tq (hin 7 66 (by kernel_rfl) (by kernel_rfl)) rfl
                     exact wp_move (.tmp 66) rfl _ e0 (tE rfl)
                   | 9,ho,hsk=>
                     obtain rfl:=Oj9 ho
                     exact o_fld43_1 (.tmp 7) rfl q7 (0) (1) rfl ((hout 7 (by kernel_rfl)).trans rfl) (tE rfl)
                   | 10,ho,hsk=>
                     obtain rfl:=Oj9 ho
                     have e0:a'.eval (.tmp 68)= .pointer (some ⟨q7,1,none⟩):=is_tq (hin 9 68 (by kernel_rfl) (by kernel_rfl)) rfl
                     exact o_load3 (.tmp 68) rfl _ _ e0 (fits_cell ((unhide HZ).step hk2).b7 1 _ rfl) (tE rfl)
                   | 11,ho,hsk=>
                     obtain rfl:=Oj9 ho
                     exact o_fld43_1 (.tmp 10) rfl q10 (0) (1) rfl ((hout 10 (by kernel_rfl)).trans rfl) (tE rfl)
                   | 12,ho,hsk=>
                     obtain rfl:=Oj9 ho
                     have e0:a'.eval (.tmp 70)= .pointer (some ⟨q10,1,none⟩):=is_tq (hin 11 70 (by kernel_rfl) (by kernel_rfl)) rfl
                     exact o_load3 (.tmp 70) rfl _ _ e0 (fits_cell ((unhide HZ).step hk2).b10 1 _ rfl) (tE rfl)
                   | 13,ho,hsk=>
                     obtain rfl:=Oj9 ho
                     have e0:a'.eval (.tmp 69)= .int .i64 s.ow:=is_tq (hin 10 69 (by kernel_rfl) (by kernel_rfl)) rfl
                     have e1:a'.eval (.tmp 71)= .int .i64 s1.ow:=is_tq (hin 12 71 (by kernel_rfl) (by kernel_rfl)) rfl
                     exact c_neq3 (.tmp 69) (.tmp 71) rfl _ _ (true) (unhide D2) e0 e1 (tE rfl)
                   | 14,ho,hsk=>
                     obtain rfl:=Oj9 ho
                     have e0:a'.eval (.tmp 67)= .bool true:=is_tq (hin 8 67 (by kernel_rfl) (by kernel_rfl)) rfl
                     have e1:a'.eval (.tmp 72)= .bool false:=is_tq (hin 13 72 (by kernel_rfl) (by kernel_rfl)) rfl
                     exact o_pick (.tmp 67) (.tmp 72) rfl _ e0 e1 (tE rfl)
                   | 15,ho,hsk=>
                     obtain rfl:=Oj9 ho
                     have e0:a'.eval (.tmp 73)= .bool false:=is_tq (hin 14 73 (by kernel_rfl) (by kernel_rfl)) rfl
                     exact wp_move (.tmp 73) rfl _ e0 (tE rfl)
                   | 16,ho,hsk=>
                     cases hsk
                   | 17,ho,hsk=>
                     cases hsk
                   | 18,ho,hsk=>
                     cases hsk
                   | 19,ho,hsk=>
                     cases hsk
                   | 20,ho,hsk=>
                     cases hsk
                   | 21,ho,hsk=>
                     cases hsk
                   | 22,ho,hsk=>
                     obtain rfl:=Oj9 ho
                     have e0:a'.eval (.tmp 74)= .bool false:=is_tq (hin 15 74 (by kernel_rfl) (by kernel_rfl)) rfl
                     exact o_pickN (.tmp 74) (.tmp 80) rfl e0 (tE rfl)
                   | 23,ho,hsk=>
                     obtain rfl:=Oj9 ho
                     have e0:a'.eval (.tmp 81)= .bool false:=is_tq (hin 22 81 (by kernel_rfl) (by kernel_rfl)) rfl
                     exact wp_move (.tmp 81) rfl _ e0 (tE rfl)
                   | 24,ho,hsk=>
                     cases hsk
                   | 25,ho,hsk=>
                     cases hsk
                   | 26,ho,hsk=>
                     cases hsk
                   | 27,ho,hsk=>
                     cases hsk
                   | 28,ho,hsk=>
                     cases hsk
                   | 29,ho,hsk=>
                     obtain rfl:=Oj9 ho
                     have e0:a'.eval (.tmp 82)= .bool false:=is_tq (hin 23 82 (by kernel_rfl) (by kernel_rfl)) rfl
                     exact o_pickN (.tmp 82) (.tmp 87) rfl e0 (tE rfl)
                 intro w9 hk9
                 replace hk9:Kept [] wr w9:=⟨hk9.os,hk9.tape,hk9.output,hk9.size,hk9.block⟩
                 simp only [valsQ,List.map_cons,List.map_nil,Option.getD_some,Option.getD_none,List.take_succ_cons,List.take_zero,putAll,Act.put,List.setIfInBounds_toArray,List.set_cons_succ,List.set_cons_zero]
                 go_wp2_with fail
                 go_meet
                 case rel=>exact ⟨congrArg Value.bool (decide_eq_false (p:=Cd s s1 sp) (unhide HCD)).symm,hide ((unhide HZ).step hk9)⟩
               · have D2:Hid (decide (s.ow=s1.ow)=false):=decide_eq_false h2
                 by_cases h3:sp.k=4
                 · have D3:Hid (decide (sp.k=4)=true):=decide_eq_true h3
                   by_cases h4:s.ex=s1.ex
                   · have D4:Hid (decide (s.ex=s1.ex)=true):=decide_eq_true h4
                     have HCD:Hid (¬Cd s s1 sp):=fun e=>e.2.2.2.2 h4
                     clear h0 h1 h2 h3 h4
                     refine wp_text_tq 30 rfl (by kernel_rfl) [some (.pointer (some ⟨q7,1,none⟩)),some (.int .i64 s.ow),some (.bool true),some (.bool true),some (.pointer (some ⟨q10,1,none⟩)),some (.int .i64 s1.ow),some (.bool true),some (.bool true),some (.bool true),some (.pointer (some ⟨q7,1,none⟩)),some (.int .i64 s.ow),some (.pointer (some ⟨q10,1,none⟩)),some (.int .i64 s1.ow),some (.bool true),some (.bool true),some (.bool true),some (.slice (some ⟨sb,so,none⟩) X.length c0),some (.int .i64 j),some (.pointer (some ⟨sb,so+j*5,none⟩)),some (.pointer (some ⟨sb,so+j*5,none⟩)),some (.int .i64 sp.k),some (.bool true),some (.bool true),some (.bool true),some (P0 q7),some (.int .i64 s.ex),some (P0 q10),some (.int .i64 s1.ex),some (.bool false),some (.bool false)] rfl (by kernel_rfl) (by kernel_rfl) ?_ ?_
                     · intro i o' hi hsk ho a' w2 hout hin hk2
                       replace hk2:Kept [] wr w2:=⟨hk2.os,hk2.tape,hk2.output,hk2.size,hk2.block⟩
                       match i,ho,hsk with
                       | 0,ho,hsk=>
                         obtain rfl:=Oj9 ho
                         exact o_fld43_1 (.tmp 7) rfl q7 (0) (1) rfl ((hout 7 (by kernel_rfl)).trans rfl) (tE rfl)
                       | 1,ho,hsk=>
                         obtain rfl:=Oj9 ho
                         have e0:a'.eval (.tmp 59)= .pointer (some ⟨q7,1,none⟩):=is_tq (hin 0 59 (by kernel_rfl) (by kernel_rfl)) rfl
                         exact o_load3 (.tmp 59) rfl _ _ e0 (fits_cell ((unhide HZ).step hk2).b7 1 _ rfl) (tE rfl)
                       | 2,ho,hsk=>
                         obtain rfl:=Oj9 ho
                         have e0:a'.eval (.tmp 60)= .int .i64 s.ow:=is_tq (hin 1 60 (by kernel_rfl) (by kernel_rfl)) rfl
                         exact c_geq3 (.tmp 60) (.const (.int .i64 (0))) rfl _ _ (true) (unhide D0) e0 rfl (tE rfl)
                       | 3,ho,hsk=>
                         obtain rfl:=Oj9 ho
                         have e0:a'.eval (.tmp 61)= .bool true:=is_tq (hin 2 61 (by kernel_rfl) (by kernel_rfl)) rfl
                         exact wp_move (.tmp 61) rfl _ e0 (tE rfl)
                       | 4,ho,hsk=>
                         obtain rfl:=Oj9 ho
                         exact o_fld43_1 (.tmp 10) rfl q10 (0) (1) rfl ((hout 10 (by kernel_rfl)).trans rfl) (tE rfl)
                       | 5,ho,hsk=>
                         obtain rfl:=Oj9 ho
                         have e0:a'.eval (.tmp 63)= .pointer (some ⟨q10,1,none⟩):=is_tq (hin 4 63 (by kernel_rfl) (by kernel_rfl)) rfl
                         exact o_load3 (.tmp 63) rfl _ _ e0 (fits_cell ((unhide HZ).step hk2).b10 1 _ rfl) (tE rfl)
                       | 6,ho,hsk=>
                         obtain rfl:=Oj9 ho
                         have e0:a'.eval (.tmp 64)= .int .i64 s1.ow:=is_tq (hin 5 64 (by kernel_rfl) (by kernel_rfl)) rfl
                         exact c_geq3 (.tmp 64) (.const (.int .i64 (0))) rfl _ _ (true) (unhide D1) e0 rfl (tE rfl)
                       | 7,ho,hsk=>
                         obtain rfl:=Oj9 ho
                         have e0:a'.eval (.tmp 62)= .bool true:=is_tq (hin 3 62 (by kernel_rfl) (by kernel_rfl)) rfl
                         have e1:a'.eval (.tmp 65)= .bool true:=is_tq (hin 6 65 (by kernel_rfl) (by kernel_rfl)) rfl
                         exact o_pick (.tmp 62) (.tmp 65) rfl _ e0 e1 (tE rfl)
                       | 8,ho,hsk=>
                         obtain rfl:=Oj9 ho
                         have e0:a'.eval (.tmp 66)= .bool true:=is_tq (hin 7 66 (by kernel_rfl) (by kernel_rfl)) rfl
                         exact wp_move (.tmp 66) rfl _ e0 (tE rfl)
                       | 9,ho,hsk=>
                         obtain rfl:=Oj9 ho
                         exact o_fld43_1 (.tmp 7) rfl q7 (0) (1) rfl ((hout 7 (by kernel_rfl)).trans rfl) (tE rfl)
                       | 10,ho,hsk=>
                         obtain rfl:=Oj9 ho
                         have e0:a'.eval (.tmp 68)= .pointer (some ⟨q7,1,none⟩):=is_tq (hin 9 68 (by kernel_rfl) (by kernel_rfl)) rfl
                         exact o_load3 (.tmp 68) rfl _ _ e0 (fits_cell ((unhide HZ).step hk2).b7 1 _ rfl) (tE rfl)
                       | 11,ho,hsk=>
                         obtain rfl:=Oj9 ho
                         exact o_fld43_1 (.tmp 10) rfl q10 (0) (1) rfl ((hout 10 (by kernel_rfl)).trans rfl) (tE rfl)
                       | 12,ho,hsk=>
                         obtain rfl:=Oj9 ho
                         have e0:a'.eval (.tmp 70)= .pointer (some ⟨q10,1,none⟩):=is_tq (hin 11 70 (by kernel_rfl) (by kernel_rfl)) rfl
                         exact o_load3 (.tmp 70) rfl _ _ e0 (fits_cell ((unhide HZ).step hk2).b10 1 _ rfl) (tE rfl)
                       | 13,ho,hsk=>
                         obtain rfl:=Oj9 ho
                         have e0:a'.eval (.tmp 69)= .int .i64 s.ow:=is_tq (hin 10 69 (by kernel_rfl) (by kernel_rfl)) rfl
                         have e1:a'.eval (.tmp 71)= .int .i64 s1.ow:=is_tq (hin 12 71 (by kernel_rfl) (by kernel_rfl)) rfl
                         exact c_neq3 (.tmp 69) (.tmp 71) rfl _ _ (false) (unhide D2) e0 e1 (tE rfl)
                       | 14,ho,hsk=>
                         obtain rfl:=Oj9 ho
                         have e0:a'.eval (.tmp 67)= .bool true:=is_tq (hin 8 67 (by kernel_rfl) (by kernel_rfl)) rfl
                         have e1:a'.eval (.tmp 72)= .bool true:=is_tq (hin 13 72 (by kernel_rfl) (by kernel_rfl)) rfl
                         exact o_pick (.tmp 67) (.tmp 72) rfl _ e0 e1 (tE rfl)
                       | 15,ho,hsk=>
                         obtain rfl:=Oj9 ho
                         have e0:a'.eval (.tmp 73)= .bool true:=is_tq (hin 14 73 (by kernel_rfl) (by kernel_rfl)) rfl
                         exact wp_move (.tmp 73) rfl _ e0 (tE rfl)
                       | 16,ho,hsk=>
                         obtain rfl:=Oj9 ho
                         exact wp_move (.tmp 0) rfl _ ((hout 0 (by kernel_rfl)).trans rfl) (tE rfl)
                       | 17,ho,hsk=>
                         obtain rfl:=Oj9 ho
                         exact wp_move (.tmp 6) rfl _ ((hout 6 (by kernel_rfl)).trans rfl) (tE rfl)
                       | 18,ho,hsk=>
                         obtain rfl:=Oj9 ho
                         have e0:a'.eval (.tmp 75)= .slice (some ⟨sb,so,none⟩) X.length c0:=is_tq (hin 16 75 (by kernel_rfl) (by kernel_rfl)) rfl
                         have e1:a'.eval (.tmp 76)= .int .i64 j:=is_tq (hin 17 76 (by kernel_rfl) (by kernel_rfl)) rfl
                         exact o_idx22n (.tmp 75) (.tmp 76) rfl sb so X.length c0 j (unhide HLT) e0 e1 (tE rfl)
                       | 19,ho,hsk=>
                         obtain rfl:=Oj9 ho
                         have e0:a'.eval (.tmp 77)= .pointer (some ⟨sb,so+j*5,none⟩):=is_tq (hin 18 77 (by kernel_rfl) (by kernel_rfl)) rfl
                         exact o_fld33_0 (.tmp 77) rfl sb (so+j*5) (so+j*5) rfl e0 (tE rfl)
                       | 20,ho,hsk=>
                         obtain rfl:=Oj9 ho
                         have e0:a'.eval (.tmp 78)= .pointer (some ⟨sb,so+j*5,none⟩):=is_tq (hin 19 78 (by kernel_rfl) (by kernel_rfl)) rfl
                         exact o_load3 (.tmp 78) rfl _ _ e0 (((unhide HZ).step hk2).lp.st.du.kept.cell (unhide HCS) (by simp)) (tE rfl)
                       | 21,ho,hsk=>
                         obtain rfl:=Oj9 ho
                         have e0:a'.eval (.tmp 79)= .int .i64 sp.k:=is_tq (hin 20 79 (by kernel_rfl) (by kernel_rfl)) rfl
                         exact c_eql3 (.tmp 79) (.const (.int .i64 (4))) rfl _ _ (true) (unhide D3) e0 rfl (tE rfl)
                       | 22,ho,hsk=>
                         obtain rfl:=Oj9 ho
                         have e0:a'.eval (.tmp 74)= .bool true:=is_tq (hin 15 74 (by kernel_rfl) (by kernel_rfl)) rfl
                         have e1:a'.eval (.tmp 80)= .bool true:=is_tq (hin 21 80 (by kernel_rfl) (by kernel_rfl)) rfl
                         exact o_pick (.tmp 74) (.tmp 80) rfl _ e0 e1 (tE rfl)
                       | 23,ho,hsk=>
                         obtain rfl:=Oj9 ho
                         have e0:a'.eval (.tmp 81)= .bool true:=is_tq (hin 22 81 (by kernel_rfl) (by kernel_rfl)) rfl
                         exact wp_move (.tmp 81) rfl _ e0 (tE rfl)
                       | 24,ho,hsk=>
                         obtain rfl:=Oj9 ho
                         exact o_fld43_0 (.tmp 7) rfl q7 (0) (0) rfl ((hout 7 (by kernel_rfl)).trans rfl) (tE rfl)
                       | 25,ho,hsk=>
                         obtain rfl:=Oj9 ho
                         have e0:a'.eval (.tmp 83)=P0 q7:=is_tq (hin 24 83 (by kernel_rfl) (by kernel_rfl)) rfl
                         exact o_load3 (.tmp 83) rfl _ _ e0 (fits_cell ((unhide HZ).step hk2).b7 0 _ rfl) (tE rfl)
                       | 26,ho,hsk=>
                         obtain rfl:=Oj9 ho
                         exact o_fld43_0 (.tmp 10) rfl q10 (0) (0) rfl ((hout 10 (by kernel_rfl)).trans rfl) (tE rfl)
                       | 27,ho,hsk=>
                         obtain rfl:=Oj9 ho
                         have e0:a'.eval (.tmp 85)=P0 q10:=is_tq (hin 26 85 (by kernel_rfl) (by kernel_rfl)) rfl
                         exact o_load3 (.tmp 85) rfl _ _ e0 (fits_cell ((unhide HZ).step hk2).b10 0 _ rfl) (tE rfl)
                       | 28,ho,hsk=>
                         obtain rfl:=Oj9 ho
                         have e0:a'.eval (.tmp 84)= .int .i64 s.ex:=is_tq (hin 25 84 (by kernel_rfl) (by kernel_rfl)) rfl
                         have e1:a'.eval (.tmp 86)= .int .i64 s1.ex:=is_tq (hin 27 86 (by kernel_rfl) (by kernel_rfl)) rfl
                         exact c_neq3 (.tmp 84) (.tmp 86) rfl _ _ (true) (unhide D4) e0 e1 (tE rfl)
                       | 29,ho,hsk=>
                         obtain rfl:=Oj9 ho
                         have e0:a'.eval (.tmp 82)= .bool true:=is_tq (hin 23 82 (by kernel_rfl) (by kernel_rfl)) rfl
                         have e1:a'.eval (.tmp 87)= .bool false:=is_tq (hin 28 87 (by kernel_rfl) (by kernel_rfl)) rfl
                         exact o_pick (.tmp 82) (.tmp 87) rfl _ e0 e1 (tE rfl)
                     intro w9 hk9
                     replace hk9:Kept [] wr w9:=⟨hk9.os,hk9.tape,hk9.output,hk9.size,hk9.block⟩
                     simp only [valsQ,List.map_cons,List.map_nil,Option.getD_some,List.take_succ_cons,List.take_zero,putAll,Act.put,List.setIfInBounds_toArray,List.set_cons_succ,List.set_cons_zero]
                     go_wp2_with fail
                     go_meet
                     case rel=>exact ⟨congrArg Value.bool (decide_eq_false (p:=Cd s s1 sp) (unhide HCD)).symm,hide ((unhide HZ).step hk9)⟩
                   · have D4:Hid (decide (s.ex=s1.ex)=false):=decide_eq_false h4
                     have HCD:Hid (Cd s s1 sp):=⟨h0,h1,h2,h3,h4⟩
                     clear h0 h1 h2 h3 h4
                     refine wp_text_tq 30 rfl (by kernel_rfl) [some (.pointer (some ⟨q7,1,none⟩)),some (.int .i64 s.ow),some (.bool true),some (.bool true),some (.pointer (some ⟨q10,1,none⟩)),some (.int .i64 s1.ow),some (.bool true),some (.bool true),some (.bool true),some (.pointer (some ⟨q7,1,none⟩)),some (.int .i64 s.ow),some (.pointer (some ⟨q10,1,none⟩)),some (.int .i64 s1.ow),some (.bool true),some (.bool true),some (.bool true),some (.slice (some ⟨sb,so,none⟩) X.length c0),some (.int .i64 j),some (.pointer (some ⟨sb,so+j*5,none⟩)),some (.pointer (some ⟨sb,so+j*5,none⟩)),some (.int .i64 sp.k),some (.bool true),some (.bool true),some (.bool true),some (P0 q7),some (.int .i64 s.ex),some (P0 q10),some (.int .i64 s1.ex),some (.bool true),some (.bool true)] rfl (by kernel_rfl) (by kernel_rfl) ?_ ?_
                     · intro i o' hi hsk ho a' w2 hout hin hk2
                       replace hk2:Kept [] wr w2:=⟨hk2.os,hk2.tape,hk2.output,hk2.size,hk2.block⟩
                       match i,ho,hsk with
                       | 0,ho,hsk=>
                         obtain rfl:=Oj9 ho
                         exact o_fld43_1 (.tmp 7) rfl q7 (0) (1) rfl ((hout 7 (by kernel_rfl)).trans rfl) (tE rfl)
                       | 1,ho,hsk=>
                         obtain rfl:=Oj9 ho
                         have e0:a'.eval (.tmp 59)= .pointer (some ⟨q7,1,none⟩):=is_tq (hin 0 59 (by kernel_rfl) (by kernel_rfl)) rfl
                         exact o_load3 (.tmp 59) rfl _ _ e0 (fits_cell ((unhide HZ).step hk2).b7 1 _ rfl) (tE rfl)
                       | 2,ho,hsk=>
                         obtain rfl:=Oj9 ho
                         have e0:a'.eval (.tmp 60)= .int .i64 s.ow:=is_tq (hin 1 60 (by kernel_rfl) (by kernel_rfl)) rfl
                         exact c_geq3 (.tmp 60) (.const (.int .i64 (0))) rfl _ _ (true) (unhide D0) e0 rfl (tE rfl)
                       | 3,ho,hsk=>
                         obtain rfl:=Oj9 ho
                         have e0:a'.eval (.tmp 61)= .bool true:=is_tq (hin 2 61 (by kernel_rfl) (by kernel_rfl)) rfl
                         exact wp_move (.tmp 61) rfl _ e0 (tE rfl)
                       | 4,ho,hsk=>
                         obtain rfl:=Oj9 ho
                         exact o_fld43_1 (.tmp 10) rfl q10 (0) (1) rfl ((hout 10 (by kernel_rfl)).trans rfl) (tE rfl)
                       | 5,ho,hsk=>
                         obtain rfl:=Oj9 ho
                         have e0:a'.eval (.tmp 63)= .pointer (some ⟨q10,1,none⟩):=is_tq (hin 4 63 (by kernel_rfl) (by kernel_rfl)) rfl
                         exact o_load3 (.tmp 63) rfl _ _ e0 (fits_cell ((unhide HZ).step hk2).b10 1 _ rfl) (tE rfl)
                       | 6,ho,hsk=>
                         obtain rfl:=Oj9 ho
                         have e0:a'.eval (.tmp 64)= .int .i64 s1.ow:=is_tq (hin 5 64 (by kernel_rfl) (by kernel_rfl)) rfl
                         exact c_geq3 (.tmp 64) (.const (.int .i64 (0))) rfl _ _ (true) (unhide D1) e0 rfl (tE rfl)
                       | 7,ho,hsk=>
                         obtain rfl:=Oj9 ho
                         have e0:a'.eval (.tmp 62)= .bool true:=is_tq (hin 3 62 (by kernel_rfl) (by kernel_rfl)) rfl
                         have e1:a'.eval (.tmp 65)= .bool true:=is_tq (hin 6 65 (by kernel_rfl) (by kernel_rfl)) rfl
                         exact o_pick (.tmp 62) (.tmp 65) rfl _ e0 e1 (tE rfl)
                       | 8,ho,hsk=>
                         obtain rfl:=Oj9 ho
                         have e0:a'.eval (.tmp 66)= .bool true:=is_tq (hin 7 66 (by kernel_rfl) (by kernel_rfl)) rfl
                         exact wp_move (.tmp 66) rfl _ e0 (tE rfl)
                       | 9,ho,hsk=>
                         obtain rfl:=Oj9 ho
                         exact o_fld43_1 (.tmp 7) rfl q7 (0) (1) rfl ((hout 7 (by kernel_rfl)).trans rfl) (tE rfl)
                       | 10,ho,hsk=>
                         obtain rfl:=Oj9 ho
                         have e0:a'.eval (.tmp 68)= .pointer (some ⟨q7,1,none⟩):=is_tq (hin 9 68 (by kernel_rfl) (by kernel_rfl)) rfl
                         exact o_load3 (.tmp 68) rfl _ _ e0 (fits_cell ((unhide HZ).step hk2).b7 1 _ rfl) (tE rfl)
                       | 11,ho,hsk=>
                         obtain rfl:=Oj9 ho
                         exact o_fld43_1 (.tmp 10) rfl q10 (0) (1) rfl ((hout 10 (by kernel_rfl)).trans rfl) (tE rfl)
                       | 12,ho,hsk=>
                         obtain rfl:=Oj9 ho
                         have e0:a'.eval (.tmp 70)= .pointer (some ⟨q10,1,none⟩):=is_tq (hin 11 70 (by kernel_rfl) (by kernel_rfl)) rfl
                         exact o_load3 (.tmp 70) rfl _ _ e0 (fits_cell ((unhide HZ).step hk2).b10 1 _ rfl) (tE rfl)
                       | 13,ho,hsk=>
                         obtain rfl:=Oj9 ho
                         have e0:a'.eval (.tmp 69)= .int .i64 s.ow:=is_tq (hin 10 69 (by kernel_rfl) (by kernel_rfl)) rfl
                         have e1:a'.eval (.tmp 71)= .int .i64 s1.ow:=is_tq (hin 12 71 (by kernel_rfl) (by kernel_rfl)) rfl
                         exact c_neq3 (.tmp 69) (.tmp 71) rfl _ _ (false) (unhide D2) e0 e1 (tE rfl)
                       | 14,ho,hsk=>
                         obtain rfl:=Oj9 ho
                         have e0:a'.eval (.tmp 67)= .bool true:=is_tq (hin 8 67 (by kernel_rfl) (by kernel_rfl)) rfl
                         have e1:a'.eval (.tmp 72)= .bool true:=is_tq (hin 13 72 (by kernel_rfl) (by kernel_rfl)) rfl
                         exact o_pick (.tmp 67) (.tmp 72) rfl _ e0 e1 (tE rfl)
                       | 15,ho,hsk=>
                         obtain rfl:=Oj9 ho
                         have e0:a'.eval (.tmp 73)= .bool true:=is_tq (hin 14 73 (by kernel_rfl) (by kernel_rfl)) rfl
                         exact wp_move (.tmp 73) rfl _ e0 (tE rfl)
                       | 16,ho,hsk=>
                         obtain rfl:=Oj9 ho
                         exact wp_move (.tmp 0) rfl _ ((hout 0 (by kernel_rfl)).trans rfl) (tE rfl)
                       | 17,ho,hsk=>
                         obtain rfl:=Oj9 ho
                         exact wp_move (.tmp 6) rfl _ ((hout 6 (by kernel_rfl)).trans rfl) (tE rfl)
                       | 18,ho,hsk=>
                         obtain rfl:=Oj9 ho
                         have e0:a'.eval (.tmp 75)= .slice (some ⟨sb,so,none⟩) X.length c0:=is_tq (hin 16 75 (by kernel_rfl) (by kernel_rfl)) rfl
                         have e1:a'.eval (.tmp 76)= .int .i64 j:=is_tq (hin 17 76 (by kernel_rfl) (by kernel_rfl)) rfl
                         exact o_idx22n (.tmp 75) (.tmp 76) rfl sb so X.length c0 j (unhide HLT) e0 e1 (tE rfl)
                       | 19,ho,hsk=>
                         obtain rfl:=Oj9 ho
                         have e0:a'.eval (.tmp 77)= .pointer (some ⟨sb,so+j*5,none⟩):=is_tq (hin 18 77 (by kernel_rfl) (by kernel_rfl)) rfl
                         exact o_fld33_0 (.tmp 77) rfl sb (so+j*5) (so+j*5) rfl e0 (tE rfl)
                       | 20,ho,hsk=>
                         obtain rfl:=Oj9 ho
                         have e0:a'.eval (.tmp 78)= .pointer (some ⟨sb,so+j*5,none⟩):=is_tq (hin 19 78 (by kernel_rfl) (by kernel_rfl)) rfl
                         exact o_load3 (.tmp 78) rfl _ _ e0 (((unhide HZ).step hk2).lp.st.du.kept.cell (unhide HCS) (by simp)) (tE rfl)
                       | 21,ho,hsk=>
                         obtain rfl:=Oj9 ho
                         have e0:a'.eval (.tmp 79)= .int .i64 sp.k:=is_tq (hin 20 79 (by kernel_rfl) (by kernel_rfl)) rfl
                         exact c_eql3 (.tmp 79) (.const (.int .i64 (4))) rfl _ _ (true) (unhide D3) e0 rfl (tE rfl)
                       | 22,ho,hsk=>
                         obtain rfl:=Oj9 ho
                         have e0:a'.eval (.tmp 74)= .bool true:=is_tq (hin 15 74 (by kernel_rfl) (by kernel_rfl)) rfl
                         have e1:a'.eval (.tmp 80)= .bool true:=is_tq (hin 21 80 (by kernel_rfl) (by kernel_rfl)) rfl
                         exact o_pick (.tmp 74) (.tmp 80) rfl _ e0 e1 (tE rfl)
                       | 23,ho,hsk=>
                         obtain rfl:=Oj9 ho
                         have e0:a'.eval (.tmp 81)= .bool true:=is_tq (hin 22 81 (by kernel_rfl) (by kernel_rfl)) rfl
                         exact wp_move (.tmp 81) rfl _ e0 (tE rfl)
                       | 24,ho,hsk=>
                         obtain rfl:=Oj9 ho
                         exact o_fld43_0 (.tmp 7) rfl q7 (0) (0) rfl ((hout 7 (by kernel_rfl)).trans rfl) (tE rfl)
                       | 25,ho,hsk=>
                         obtain rfl:=Oj9 ho
                         have e0:a'.eval (.tmp 83)=P0 q7:=is_tq (hin 24 83 (by kernel_rfl) (by kernel_rfl)) rfl
                         exact o_load3 (.tmp 83) rfl _ _ e0 (fits_cell ((unhide HZ).step hk2).b7 0 _ rfl) (tE rfl)
                       | 26,ho,hsk=>
                         obtain rfl:=Oj9 ho
                         exact o_fld43_0 (.tmp 10) rfl q10 (0) (0) rfl ((hout 10 (by kernel_rfl)).trans rfl) (tE rfl)
                       | 27,ho,hsk=>
                         obtain rfl:=Oj9 ho
                         have e0:a'.eval (.tmp 85)=P0 q10:=is_tq (hin 26 85 (by kernel_rfl) (by kernel_rfl)) rfl
                         exact o_load3 (.tmp 85) rfl _ _ e0 (fits_cell ((unhide HZ).step hk2).b10 0 _ rfl) (tE rfl)
                       | 28,ho,hsk=>
                         obtain rfl:=Oj9 ho
                         have e0:a'.eval (.tmp 84)= .int .i64 s.ex:=is_tq (hin 25 84 (by kernel_rfl) (by kernel_rfl)) rfl
                         have e1:a'.eval (.tmp 86)= .int .i64 s1.ex:=is_tq (hin 27 86 (by kernel_rfl) (by kernel_rfl)) rfl
                         exact c_neq3 (.tmp 84) (.tmp 86) rfl _ _ (false) (unhide D4) e0 e1 (tE rfl)
                       | 29,ho,hsk=>
                         obtain rfl:=Oj9 ho
                         have e0:a'.eval (.tmp 82)= .bool true:=is_tq (hin 23 82 (by kernel_rfl) (by kernel_rfl)) rfl
                         have e1:a'.eval (.tmp 87)= .bool true:=is_tq (hin 28 87 (by kernel_rfl) (by kernel_rfl)) rfl
                         exact o_pick (.tmp 82) (.tmp 87) rfl _ e0 e1 (tE rfl)
                     intro w9 hk9
                     replace hk9:Kept [] wr w9:=⟨hk9.os,hk9.tape,hk9.output,hk9.size,hk9.block⟩
                     simp only [valsQ,List.map_cons,List.map_nil,Option.getD_some,List.take_succ_cons,List.take_zero,putAll,Act.put,List.setIfInBounds_toArray,List.set_cons_succ,List.set_cons_zero]
                     go_wp2_with fail
                     go_meet
                     case rel=>exact ⟨congrArg Value.bool (decide_eq_true (p:=Cd s s1 sp) (unhide HCD)).symm,hide ((unhide HZ).step hk9)⟩
                 · have D3:Hid (decide (sp.k=4)=false):=decide_eq_false h3
                   have HCD:Hid (¬Cd s s1 sp):=fun e=>h3 e.2.2.2.1
                   clear h0 h1 h2 h3
                   refine wp_text_tq 30 rfl (by kernel_rfl) [some (.pointer (some ⟨q7,1,none⟩)),some (.int .i64 s.ow),some (.bool true),some (.bool true),some (.pointer (some ⟨q10,1,none⟩)),some (.int .i64 s1.ow),some (.bool true),some (.bool true),some (.bool true),some (.pointer (some ⟨q7,1,none⟩)),some (.int .i64 s.ow),some (.pointer (some ⟨q10,1,none⟩)),some (.int .i64 s1.ow),some (.bool true),some (.bool true),some (.bool true),some (.slice (some ⟨sb,so,none⟩) X.length c0),some (.int .i64 j),some (.pointer (some ⟨sb,so+j*5,none⟩)),some (.pointer (some ⟨sb,so+j*5,none⟩)),some (.int .i64 sp.k),some (.bool false),some (.bool false),some (.bool false),none,none,none,none,none,some (.bool false)] rfl (by kernel_rfl) (by kernel_rfl) ?_ ?_
                   · intro i o' hi hsk ho a' w2 hout hin hk2
                     replace hk2:Kept [] wr w2:=⟨hk2.os,hk2.tape,hk2.output,hk2.size,hk2.block⟩
                     match i,ho,hsk with
                     | 0,ho,hsk=>
                       obtain rfl:=Oj9 ho
                       exact o_fld43_1 (.tmp 7) rfl q7 (0) (1) rfl ((hout 7 (by kernel_rfl)).trans rfl) (tE rfl)
                     | 1,ho,hsk=>
                       obtain rfl:=Oj9 ho
                       have e0:a'.eval (.tmp 59)= .pointer (some ⟨q7,1,none⟩):=is_tq (hin 0 59 (by kernel_rfl) (by kernel_rfl)) rfl
                       exact o_load3 (.tmp 59) rfl _ _ e0 (fits_cell ((unhide HZ).step hk2).b7 1 _ rfl) (tE rfl)
                     | 2,ho,hsk=>
                       obtain rfl:=Oj9 ho
                       have e0:a'.eval (.tmp 60)= .int .i64 s.ow:=is_tq (hin 1 60 (by kernel_rfl) (by kernel_rfl)) rfl
                       exact c_geq3 (.tmp 60) (.const (.int .i64 (0))) rfl _ _ (true) (unhide D0) e0 rfl (tE rfl)
                     | 3,ho,hsk=>
                       obtain rfl:=Oj9 ho
                       have e0:a'.eval (.tmp 61)= .bool true:=is_tq (hin 2 61 (by kernel_rfl) (by kernel_rfl)) rfl
                       exact wp_move (.tmp 61) rfl _ e0 (tE rfl)
                     | 4,ho,hsk=>
                       obtain rfl:=Oj9 ho
                       exact o_fld43_1 (.tmp 10) rfl q10 (0) (1) rfl ((hout 10 (by kernel_rfl)).trans rfl) (tE rfl)
                     | 5,ho,hsk=>
                       obtain rfl:=Oj9 ho
                       have e0:a'.eval (.tmp 63)= .pointer (some ⟨q10,1,none⟩):=is_tq (hin 4 63 (by kernel_rfl) (by kernel_rfl)) rfl
                       exact o_load3 (.tmp 63) rfl _ _ e0 (fits_cell ((unhide HZ).step hk2).b10 1 _ rfl) (tE rfl)
                     | 6,ho,hsk=>
                       obtain rfl:=Oj9 ho
                       have e0:a'.eval (.tmp 64)= .int .i64 s1.ow:=is_tq (hin 5 64 (by kernel_rfl) (by kernel_rfl)) rfl
                       exact c_geq3 (.tmp 64) (.const (.int .i64 (0))) rfl _ _ (true) (unhide D1) e0 rfl (tE rfl)
                     | 7,ho,hsk=>
                       obtain rfl:=Oj9 ho
                       have e0:a'.eval (.tmp 62)= .bool true:=is_tq (hin 3 62 (by kernel_rfl) (by kernel_rfl)) rfl
                       have e1:a'.eval (.tmp 65)= .bool true:=is_tq (hin 6 65 (by kernel_rfl) (by kernel_rfl)) rfl
                       exact o_pick (.tmp 62) (.tmp 65) rfl _ e0 e1 (tE rfl)
                     | 8,ho,hsk=>
                       obtain rfl:=Oj9 ho
                       have e0:a'.eval (.tmp 66)= .bool true:=is_tq (hin 7 66 (by kernel_rfl) (by kernel_rfl)) rfl
                       exact wp_move (.tmp 66) rfl _ e0 (tE rfl)
                     | 9,ho,hsk=>
                       obtain rfl:=Oj9 ho
                       exact o_fld43_1 (.tmp 7) rfl q7 (0) (1) rfl ((hout 7 (by kernel_rfl)).trans rfl) (tE rfl)
                     | 10,ho,hsk=>
                       obtain rfl:=Oj9 ho
                       have e0:a'.eval (.tmp 68)= .pointer (some ⟨q7,1,none⟩):=is_tq (hin 9 68 (by kernel_rfl) (by kernel_rfl)) rfl
                       exact o_load3 (.tmp 68) rfl _ _ e0 (fits_cell ((unhide HZ).step hk2).b7 1 _ rfl) (tE rfl)
                     | 11,ho,hsk=>
                       obtain rfl:=Oj9 ho
                       exact o_fld43_1 (.tmp 10) rfl q10 (0) (1) rfl ((hout 10 (by kernel_rfl)).trans rfl) (tE rfl)
                     | 12,ho,hsk=>
                       obtain rfl:=Oj9 ho
                       have e0:a'.eval (.tmp 70)= .pointer (some ⟨q10,1,none⟩):=is_tq (hin 11 70 (by kernel_rfl) (by kernel_rfl)) rfl
                       exact o_load3 (.tmp 70) rfl _ _ e0 (fits_cell ((unhide HZ).step hk2).b10 1 _ rfl) (tE rfl)
                     | 13,ho,hsk=>
                       obtain rfl:=Oj9 ho
                       have e0:a'.eval (.tmp 69)= .int .i64 s.ow:=is_tq (hin 10 69 (by kernel_rfl) (by kernel_rfl)) rfl
                       have e1:a'.eval (.tmp 71)= .int .i64 s1.ow:=is_tq (hin 12 71 (by kernel_rfl) (by kernel_rfl)) rfl
                       exact c_neq3 (.tmp 69) (.tmp 71) rfl _ _ (false) (unhide D2) e0 e1 (tE rfl)
                     | 14,ho,hsk=>
                       obtain rfl:=Oj9 ho
                       have e0:a'.eval (.tmp 67)= .bool true:=is_tq (hin 8 67 (by kernel_rfl) (by kernel_rfl)) rfl
                       have e1:a'.eval (.tmp 72)= .bool true:=is_tq (hin 13 72 (by kernel_rfl) (by kernel_rfl)) rfl
                       exact o_pick (.tmp 67) (.tmp 72) rfl _ e0 e1 (tE rfl)
                     | 15,ho,hsk=>
                       obtain rfl:=Oj9 ho
                       have e0:a'.eval (.tmp 73)= .bool true:=is_tq (hin 14 73 (by kernel_rfl) (by kernel_rfl)) rfl
                       exact wp_move (.tmp 73) rfl _ e0 (tE rfl)
                     | 16,ho,hsk=>
                       obtain rfl:=Oj9 ho
                       exact wp_move (.tmp 0) rfl _ ((hout 0 (by kernel_rfl)).trans rfl) (tE rfl)
                     | 17,ho,hsk=>
                       obtain rfl:=Oj9 ho
                       exact wp_move (.tmp 6) rfl _ ((hout 6 (by kernel_rfl)).trans rfl) (tE rfl)
                     | 18,ho,hsk=>
                       obtain rfl:=Oj9 ho
                       have e0:a'.eval (.tmp 75)= .slice (some ⟨sb,so,none⟩) X.length c0:=is_tq (hin 16 75 (by kernel_rfl) (by kernel_rfl)) rfl
                       have e1:a'.eval (.tmp 76)= .int .i64 j:=is_tq (hin 17 76 (by kernel_rfl) (by kernel_rfl)) rfl
                       exact o_idx22n (.tmp 75) (.tmp 76) rfl sb so X.length c0 j (unhide HLT) e0 e1 (tE rfl)
                     | 19,ho,hsk=>
                       obtain rfl:=Oj9 ho
                       have e0:a'.eval (.tmp 77)= .pointer (some ⟨sb,so+j*5,none⟩):=is_tq (hin 18 77 (by kernel_rfl) (by kernel_rfl)) rfl
                       exact o_fld33_0 (.tmp 77) rfl sb (so+j*5) (so+j*5) rfl e0 (tE rfl)
                     | 20,ho,hsk=>
                       obtain rfl:=Oj9 ho
                       have e0:a'.eval (.tmp 78)= .pointer (some ⟨sb,so+j*5,none⟩):=is_tq (hin 19 78 (by kernel_rfl) (by kernel_rfl)) rfl
                       exact o_load3 (.tmp 78) rfl _ _ e0 (((unhide HZ).step hk2).lp.st.du.kept.cell (unhide HCS) (by simp)) (tE rfl)
                     | 21,ho,hsk=>
                       obtain rfl:=Oj9 ho
                       have e0:a'.eval (.tmp 79)= .int .i64 sp.k:=is_tq (hin 20 79 (by kernel_rfl) (by kernel_rfl)) rfl
                       exact c_eql3 (.tmp 79) (.const (.int .i64 (4))) rfl _ _ (false) (unhide D3) e0 rfl (tE rfl)
                     | 22,ho,hsk=>
                       obtain rfl:=Oj9 ho
                       have e0:a'.eval (.tmp 74)= .bool true:=is_tq (hin 15 74 (by kernel_rfl) (by kernel_rfl)) rfl
                       have e1:a'.eval (.tmp 80)= .bool false:=is_tq (hin 21 80 (by kernel_rfl) (by kernel_rfl)) rfl
                       exact o_pick (.tmp 74) (.tmp 80) rfl _ e0 e1 (tE rfl)
                     | 23,ho,hsk=>
                       obtain rfl:=Oj9 ho
                       have e0:a'.eval (.tmp 81)= .bool false:=is_tq (hin 22 81 (by kernel_rfl) (by kernel_rfl)) rfl
                       exact wp_move (.tmp 81) rfl _ e0 (tE rfl)
                     | 24,ho,hsk=>
                       cases hsk
                     | 25,ho,hsk=>
                       cases hsk
                     | 26,ho,hsk=>
                       cases hsk
                     | 27,ho,hsk=>
                       cases hsk
                     | 28,ho,hsk=>
                       cases hsk
                     | 29,ho,hsk=>
                       obtain rfl:=Oj9 ho
                       have e0:a'.eval (.tmp 82)= .bool false:=is_tq (hin 23 82 (by kernel_rfl) (by kernel_rfl)) rfl
                       exact o_pickN (.tmp 82) (.tmp 87) rfl e0 (tE rfl)
                   intro w9 hk9
                   replace hk9:Kept [] wr w9:=⟨hk9.os,hk9.tape,hk9.output,hk9.size,hk9.block⟩
                   simp only [valsQ,List.map_cons,List.map_nil,Option.getD_some,Option.getD_none,List.take_succ_cons,List.take_zero,putAll,Act.put,List.setIfInBounds_toArray,List.set_cons_succ,List.set_cons_zero]
                   go_wp2_with fail
                   go_meet
                   case rel=>exact ⟨congrArg Value.bool (decide_eq_false (p:=Cd s s1 sp) (unhide HCD)).symm,hide ((unhide HZ).step hk9)⟩
             · have D1:Hid (decide (s1.ow≥0)=false):=decide_eq_false h1
               have HCD:Hid (¬Cd s s1 sp):=fun e=>h1 e.2.1
               clear h0 h1
               refine wp_text_tq 30 rfl (by kernel_rfl) [some (.pointer (some ⟨q7,1,none⟩)),some (.int .i64 s.ow),some (.bool true),some (.bool true),some (.pointer (some ⟨q10,1,none⟩)),some (.int .i64 s1.ow),some (.bool false),some (.bool false),some (.bool false),none,none,none,none,none,some (.bool false),some (.bool false),none,none,none,none,none,none,some (.bool false),some (.bool false),none,none,none,none,none,some (.bool false)] rfl (by kernel_rfl) (by kernel_rfl) ?_ ?_
               · intro i o' hi hsk ho a' w2 hout hin hk2
                 replace hk2:Kept [] wr w2:=⟨hk2.os,hk2.tape,hk2.output,hk2.size,hk2.block⟩
                 match i,ho,hsk with
                 | 0,ho,hsk=>
                   obtain rfl:=Oj9 ho
                   exact o_fld43_1 (.tmp 7) rfl q7 (0) (1) rfl ((hout 7 (by kernel_rfl)).trans rfl) (tE rfl)
                 | 1,ho,hsk=>
                   obtain rfl:=Oj9 ho
                   have e0:a'.eval (.tmp 59)= .pointer (some ⟨q7,1,none⟩):=is_tq (hin 0 59 (by kernel_rfl) (by kernel_rfl)) rfl
                   exact o_load3 (.tmp 59) rfl _ _ e0 (fits_cell ((unhide HZ).step hk2).b7 1 _ rfl) (tE rfl)
                 | 2,ho,hsk=>
                   obtain rfl:=Oj9 ho
                   have e0:a'.eval (.tmp 60)= .int .i64 s.ow:=is_tq (hin 1 60 (by kernel_rfl) (by kernel_rfl)) rfl
                   exact c_geq3 (.tmp 60) (.const (.int .i64 (0))) rfl _ _ (true) (unhide D0) e0 rfl (tE rfl)
                 | 3,ho,hsk=>
                   obtain rfl:=Oj9 ho
                   have e0:a'.eval (.tmp 61)= .bool true:=is_tq (hin 2 61 (by kernel_rfl) (by kernel_rfl)) rfl
                   exact wp_move (.tmp 61) rfl _ e0 (tE rfl)
                 | 4,ho,hsk=>
                   obtain rfl:=Oj9 ho
                   exact o_fld43_1 (.tmp 10) rfl q10 (0) (1) rfl ((hout 10 (by kernel_rfl)).trans rfl) (tE rfl)
                 | 5,ho,hsk=>
                   obtain rfl:=Oj9 ho
                   have e0:a'.eval (.tmp 63)= .pointer (some ⟨q10,1,none⟩):=is_tq (hin 4 63 (by kernel_rfl) (by kernel_rfl)) rfl
                   exact o_load3 (.tmp 63) rfl _ _ e0 (fits_cell ((unhide HZ).step hk2).b10 1 _ rfl) (tE rfl)
                 | 6,ho,hsk=>
                   obtain rfl:=Oj9 ho
                   have e0:a'.eval (.tmp 64)= .int .i64 s1.ow:=is_tq (hin 5 64 (by kernel_rfl) (by kernel_rfl)) rfl
                   exact c_geq3 (.tmp 64) (.const (.int .i64 (0))) rfl _ _ (false) (unhide D1) e0 rfl (tE rfl)
                 | 7,ho,hsk=>
                   obtain rfl:=Oj9 ho
                   have e0:a'.eval (.tmp 62)= .bool true:=is_tq (hin 3 62 (by kernel_rfl) (by kernel_rfl)) rfl
                   have e1:a'.eval (.tmp 65)= .bool false:=is_tq (hin 6 65 (by kernel_rfl) (by kernel_rfl)) rfl
                   exact o_pick (.tmp 62) (.tmp 65) rfl _ e0 e1 (tE rfl)
                 | 8,ho,hsk=>
                   obtain rfl:=Oj9 ho
                   have e0:a'.eval (.tmp 66)= .bool false:=is_tq (hin 7 66 (by kernel_rfl) (by kernel_rfl)) rfl
                   exact wp_move (.tmp 66) rfl _ e0 (tE rfl)
                 | 9,ho,hsk=>
                   cases hsk
                 | 10,ho,hsk=>
                   cases hsk
                 | 11,ho,hsk=>
                   cases hsk
                 | 12,ho,hsk=>
                   cases hsk
                 | 13,ho,hsk=>
                   cases hsk
                 | 14,ho,hsk=>
                   obtain rfl:=Oj9 ho
                   have e0:a'.eval (.tmp 67)= .bool false:=is_tq (hin 8 67 (by kernel_rfl) (by kernel_rfl)) rfl
                   exact o_pickN (.tmp 67) (.tmp 72) rfl e0 (tE rfl)
                 | 15,ho,hsk=>
                   obtain rfl:=Oj9 ho
                   have e0:a'.eval (.tmp 73)= .bool false:=is_tq (hin 14 73 (by kernel_rfl) (by kernel_rfl)) rfl
                   exact wp_move (.tmp 73) rfl _ e0 (tE rfl)
                 | 16,ho,hsk=>
                   cases hsk
                 | 17,ho,hsk=>
                   cases hsk
                 | 18,ho,hsk=>
                   cases hsk
                 | 19,ho,hsk=>
                   cases hsk
                 | 20,ho,hsk=>
                   cases hsk
                 | 21,ho,hsk=>
                   cases hsk
                 | 22,ho,hsk=>
                   obtain rfl:=Oj9 ho
                   have e0:a'.eval (.tmp 74)= .bool false:=is_tq (hin 15 74 (by kernel_rfl) (by kernel_rfl)) rfl
                   exact o_pickN (.tmp 74) (.tmp 80) rfl e0 (tE rfl)
                 | 23,ho,hsk=>
                   obtain rfl:=Oj9 ho
                   have e0:a'.eval (.tmp 81)= .bool false:=is_tq (hin 22 81 (by kernel_rfl) (by kernel_rfl)) rfl
                   exact wp_move (.tmp 81) rfl _ e0 (tE rfl)
                 | 24,ho,hsk=>
                   cases hsk
                 | 25,ho,hsk=>
                   cases hsk
                 | 26,ho,hsk=>
                   cases hsk
                 | 27,ho,hsk=>
                   cases hsk
                 | 28,ho,hsk=>
                   cases hsk
                 | 29,ho,hsk=>
                   obtain rfl:=Oj9 ho
                   have e0:a'.eval (.tmp 82)= .bool false:=is_tq (hin 23 82 (by kernel_rfl) (by kernel_rfl)) rfl
                   exact o_pickN (.tmp 82) (.tmp 87) rfl e0 (tE rfl)
               intro w9 hk9
               replace hk9:Kept [] wr w9:=⟨hk9.os,hk9.tape,hk9.output,hk9.size,hk9.block⟩
               simp only [valsQ,List.map_cons,List.map_nil,Option.getD_some,Option.getD_none,List.take_succ_cons,List.take_zero,putAll,Act.put,List.setIfInBounds_toArray,List.set_cons_succ,List.set_cons_zero]
               go_wp2_with fail
               go_meet
               case rel=>exact ⟨congrArg Value.bool (decide_eq_false (p:=Cd s s1 sp) (unhide HCD)).symm,hide ((unhide HZ).step hk9)⟩
           · have D0:Hid (decide (s.ow≥0)=false):=decide_eq_false h0
             have HCD:Hid (¬Cd s s1 sp):=fun e=>h0 e.1
             clear h0
             refine wp_text_tq 30 rfl (by kernel_rfl) [some (.pointer (some ⟨q7,1,none⟩)),some (.int .i64 s.ow),some (.bool false),some (.bool false),none,none,none,some (.bool false),some (.bool false),none,none,none,none,none,some (.bool false),some (.bool false),none,none,none,none,none,none,some (.bool false),some (.bool false),none,none,none,none,none,some (.bool false)] rfl (by kernel_rfl) (by kernel_rfl) ?_ ?_
             · intro i o' hi hsk ho a' w2 hout hin hk2
               replace hk2:Kept [] wr w2:=⟨hk2.os,hk2.tape,hk2.output,hk2.size,hk2.block⟩
               match i,ho,hsk with
               | 0,ho,hsk=>
                 obtain rfl:=Oj9 ho
                 exact o_fld43_1 (.tmp 7) rfl q7 (0) (1) rfl ((hout 7 (by kernel_rfl)).trans rfl) (tE rfl)
               | 1,ho,hsk=>
                 obtain rfl:=Oj9 ho
                 have e0:a'.eval (.tmp 59)= .pointer (some ⟨q7,1,none⟩):=is_tq (hin 0 59 (by kernel_rfl) (by kernel_rfl)) rfl
                 exact o_load3 (.tmp 59) rfl _ _ e0 (fits_cell ((unhide HZ).step hk2).b7 1 _ rfl) (tE rfl)
               | 2,ho,hsk=>
                 obtain rfl:=Oj9 ho
                 have e0:a'.eval (.tmp 60)= .int .i64 s.ow:=is_tq (hin 1 60 (by kernel_rfl) (by kernel_rfl)) rfl
                 exact c_geq3 (.tmp 60) (.const (.int .i64 (0))) rfl _ _ (false) (unhide D0) e0 rfl (tE rfl)
               | 3,ho,hsk=>
                 obtain rfl:=Oj9 ho
                 have e0:a'.eval (.tmp 61)= .bool false:=is_tq (hin 2 61 (by kernel_rfl) (by kernel_rfl)) rfl
                 exact wp_move (.tmp 61) rfl _ e0 (tE rfl)
               | 4,ho,hsk=>
                 cases hsk
               | 5,ho,hsk=>
                 cases hsk
               | 6,ho,hsk=>
                 cases hsk
               | 7,ho,hsk=>
                 obtain rfl:=Oj9 ho
                 have e0:a'.eval (.tmp 62)= .bool false:=is_tq (hin 3 62 (by kernel_rfl) (by kernel_rfl)) rfl
                 exact o_pickN (.tmp 62) (.tmp 65) rfl e0 (tE rfl)
               | 8,ho,hsk=>
                 obtain rfl:=Oj9 ho
                 have e0:a'.eval (.tmp 66)= .bool false:=is_tq (hin 7 66 (by kernel_rfl) (by kernel_rfl)) rfl
                 exact wp_move (.tmp 66) rfl _ e0 (tE rfl)
               | 9,ho,hsk=>
                 cases hsk
               | 10,ho,hsk=>
                 cases hsk
               | 11,ho,hsk=>
                 cases hsk
               | 12,ho,hsk=>
                 cases hsk
               | 13,ho,hsk=>
                 cases hsk
               | 14,ho,hsk=>
                 obtain rfl:=Oj9 ho
                 have e0:a'.eval (.tmp 67)= .bool false:=is_tq (hin 8 67 (by kernel_rfl) (by kernel_rfl)) rfl
                 exact o_pickN (.tmp 67) (.tmp 72) rfl e0 (tE rfl)
               | 15,ho,hsk=>
                 obtain rfl:=Oj9 ho
                 have e0:a'.eval (.tmp 73)= .bool false:=is_tq (hin 14 73 (by kernel_rfl) (by kernel_rfl)) rfl
                 exact wp_move (.tmp 73) rfl _ e0 (tE rfl)
               | 16,ho,hsk=>
                 cases hsk
               | 17,ho,hsk=>
                 cases hsk
               | 18,ho,hsk=>
                 cases hsk
               | 19,ho,hsk=>
                 cases hsk
               | 20,ho,hsk=>
                 cases hsk
               | 21,ho,hsk=>
                 cases hsk
               | 22,ho,hsk=>
                 obtain rfl:=Oj9 ho
                 have e0:a'.eval (.tmp 74)= .bool false:=is_tq (hin 15 74 (by kernel_rfl) (by kernel_rfl)) rfl
                 exact o_pickN (.tmp 74) (.tmp 80) rfl e0 (tE rfl)
               | 23,ho,hsk=>
                 obtain rfl:=Oj9 ho
                 have e0:a'.eval (.tmp 81)= .bool false:=is_tq (hin 22 81 (by kernel_rfl) (by kernel_rfl)) rfl
                 exact wp_move (.tmp 81) rfl _ e0 (tE rfl)
               | 24,ho,hsk=>
                 cases hsk
               | 25,ho,hsk=>
                 cases hsk
               | 26,ho,hsk=>
                 cases hsk
               | 27,ho,hsk=>
                 cases hsk
               | 28,ho,hsk=>
                 cases hsk
               | 29,ho,hsk=>
                 obtain rfl:=Oj9 ho
                 have e0:a'.eval (.tmp 82)= .bool false:=is_tq (hin 23 82 (by kernel_rfl) (by kernel_rfl)) rfl
                 exact o_pickN (.tmp 82) (.tmp 87) rfl e0 (tE rfl)
             intro w9 hk9
             replace hk9:Kept [] wr w9:=⟨hk9.os,hk9.tape,hk9.output,hk9.size,hk9.block⟩
             simp only [valsQ,List.map_cons,List.map_nil,Option.getD_some,Option.getD_none,List.take_succ_cons,List.take_zero,putAll,Act.put,List.setIfInBounds_toArray,List.set_cons_succ,List.set_cons_zero]
             go_wp2_with fail
             go_meet
             case rel=>exact ⟨congrArg Value.bool (decide_eq_false (p:=Cd s s1 sp) (unhide HCD)).symm,hide ((unhide HZ).step hk9)⟩
         case rest=>
           clear HZ
           obtain⟨ht,HZ⟩:=hcut
           go_upto_if 88 with fail
           go_cut [6] from 21 to 119 (fun xi wc=>xi= .int .i64 (j:Int)∧∃f1,Hid (∀n,n<8→f1 n=true→s1.pa n=true)∧Hid (Lz w wc b c (j+1) s1 L1 ln1 lr1 pb f1 s L q7 q10 x y z x1 (.slice yo (lst s1.pa).length yc) z1 (.slice vo O1.length vc) O1))
           case first=>
             by_cases hC:Cd s s1 sp
             · rw [decide_eq_true hC] at ht
               subst ht
               obtain⟨m,hm⟩:∃m:Nat,s.ow=(m:Int):=⟨s.ow.toNat,by have:=hC.1;omega⟩
               have hm8:m<8:=by have:=(unhide HSO);omega
               have hmI:(m:Int)<8:=by omega
               have hpm:s1.pa m=true:=by have h9:=unhide HGQ hC.2.2.2.1 hC.1 hC.2.2.1;rw [hm] at h9;exact h9
               have c7:wc.cell? ⟨q7,1,none⟩=some (.int .i64 (m:Int)):=(fits_cell (unhide HZ).b7 1 _ rfl).trans (by show some (Value.int .i64 s.ow)=_;rw [hm])
               have HP2:Hid (∀n,n<8→upd f1 m true n=true→s1.pa n=true):=by
                 intro n hn h9
                 by_cases e:n=m
                 · rw [e];exact hpm
                 · rw [updNo _ _ e] at h9;exact unhide HP1 n hn h9
               clear hC hm hpm
               go_wp2_with (first |(refine wpStB size4 rfl (.tmp 91) (.const (.bool true)) rfl rfl pb m (.bool true) ⟨rfl,rfl⟩ rfl rfl (unhide HZ).ar (show m<8 from hm8) (b8_put f1 m hm8 true) ?_;intro W9 B9 K9;replace HZ:Hid (Lz w W9 b c (j+1) s1 L1 ln1 lr1 pb (upd f1 m true) s L q7 q10 x y z x1 (.slice yo (lst s1.pa).length yc) z1 (.slice vo O1.length vc) O1):=hide ((unhide HZ).put K9 B9);clear B9 K9 c7;refine Stp.go ?_))
               constructor
               go_wp2_with fail
               go_meet
               case rel=>exact ⟨rfl,_,HP2,HZ⟩
             · rw [decide_eq_false hC] at ht
               subst ht
               clear hC
               go_wp2_with fail
               go_meet
               case rel=>exact ⟨rfl,_,HP1,HZ⟩
           case rest=>
             clear HZ HP1 ht
             obtain⟨rfl,f3,HP3,HZ⟩:=hcut
             go_wp2_with fail
             go_loopw [12] (fun xn wr=>∃n:Nat,n≤8∧xn= .int .i64 n∧Hid (Lz w wr b c (j+1) s1 L1 ln1 lr1 pb f3 s L q7 q10 x y z x1 (.slice yo (lst s1.pa).length yc) z1 (.slice vo O1.length vc) O1)) (fun xn _=>8-(intOf xn).toNat)
             case atStart=>exact ⟨0,by omega,rfl,HZ⟩
             case round=>
               clear HZ
               obtain⟨n,hn,rfl,HZ⟩:=hrel
               by_cases hn8:n<8
               · have hd8:decide ((n:Int)<8)=true:=by simp;omega
                 have hnI:(n:Int)<8:=by omega
                 go_wp2_with fail
                 go_loopw [13,14] (fun xi xk wr=>∃k:Nat,k≤(lst s1.pa).length∧xk= .int .i64 k∧xi= .bool (decide ((n:Int)∈(lst s1.pa).take k))∧Hid (Lz w wr b c (j+1) s1 L1 ln1 lr1 pb f3 s L q7 q10 x y z x1 (.slice yo (lst s1.pa).length yc) z1 (.slice vo O1.length vc) O1)) (fun _ xk _=>(lst s1.pa).length-(intOf xk).toNat)
                 case atStart=>exact ⟨0,by omega,rfl,by simp,HZ⟩
                 case round=>
                   clear HZ
                   obtain⟨k,hk,rfl,rfl,HZ⟩:=hrel
                   have cY:wr.cell? ⟨q10,3,none⟩=some (.slice yo (lst s1.pa).length yc):=fits_cell (unhide HZ).b10 3 _ rfl
                   have hP8:(lst s1.pa).length≤8:=lstTo_len _ 8
                   by_cases hkl:k<(lst s1.pa).length
                   · have hdk:decide ((k:Int)<((lst s1.pa).length:Int))=true:=by simp;omega
                     obtain⟨pm,hpm⟩:∃x,(lst s1.pa)[k]?=some x:=⟨_,List.getElem?_eq_getElem hkl⟩
                     obtain⟨gy,oy,cy,ey,hcy⟩:=Is.get (unhide HZ).py hpm
                     cases ey
                     have HTK:Hid ((lst s1.pa).take (k+1)=(lst s1.pa).take k++ [pm]):=by show _=_;rw [List.take_add_one,hpm];rfl
                     have HCY:=hide hcy
                     clear hpm hcy
                     cases hin:decide ((n:Int)∈(lst s1.pa).take k) with
                     | true=>
                       have HIN:Hid (decide ((n:Int)∈(lst s1.pa).take (k+1))=true):=by
                         show _=_
                         rw [unhide HTK];simp;exact .inl (of_decide_eq_true hin)
                       clear hin
                       go_wp2_with fail
                       go_roundw
                       case rel=>exact ⟨k+1,by omega,by go_num,by rw [unhide HIN],HZ⟩
                       case measure=>simp [intOf];omega
                     | false=>
                       by_cases hpn:pm=(n:Int)
                       · have HIN:Hid (decide ((n:Int)∈(lst s1.pa).take (k+1))=true):=by
                           show _=_
                           rw [unhide HTK];simp;exact .inr hpn.symm
                         have hpa:=eqt_a hpn
                         have hpb:=eqt_b hpn
                         have hpc:=eqt_c hpn
                         clear hin hpn
                         go_wp2_with (first |(refine wpIdx36G (.tmp 106) (.tmp 107) rfl rfl gy oy (lst s1.pa).length yc k hkl rfl rfl ?_;have cP:wr.cell? ⟨gy,oy+k,none⟩=some (.int .i64 pm):=unhide HCY;refine Stp.go ?_))
                         constructor
                         go_wp2_with fail
                         go_roundw
                         case rel=>exact ⟨k+1,by omega,by go_num,by rw [unhide HIN],HZ⟩
                         case measure=>simp [intOf];omega
                       · have HIN:Hid (decide ((n:Int)∈(lst s1.pa).take (k+1))=false):=by
                           show _=_
                           rw [unhide HTK];simp;exact⟨of_decide_eq_false hin,fun e=>hpn e.symm⟩
                         have hpa:=nef_a hpn
                         have hpb:=nef_b hpn
                         have hpc:=nef_c hpn
                         clear hin hpn
                         go_wp2_with (first |(refine wpIdx36G (.tmp 106) (.tmp 107) rfl rfl gy oy (lst s1.pa).length yc k hkl rfl rfl ?_;have cP:wr.cell? ⟨gy,oy+k,none⟩=some (.int .i64 pm):=unhide HCY;refine Stp.go ?_))
                         constructor
                         go_wp2_with fail
                         go_roundw
                         case rel=>exact ⟨k+1,by omega,by go_num,by rw [unhide HIN],HZ⟩
                         case measure=>simp [intOf];omega
                   · obtain rfl:k=(lst s1.pa).length:=by omega
                     have hdk:decide (((lst s1.pa).length:Int)<((lst s1.pa).length:Int))=false:=by simp
                     rw [List.take_length] at*
                     cases hf:f3 n with
                     | true=>
                       have h1:=lst_mem hn8 (unhide HP3 n hn8 hf)
                       have cN:wr.cell? ⟨pb,n,none⟩=some (.bool true):=(fits_cell (unhide HZ).ar n _ (b8_get f3 n hn8)).trans (by rw [hf])
                       rw [decide_eq_true h1]
                       clear h1 hf
                       go_wp2_with fail
                       go_roundw
                       case rel=>exact ⟨n+1,by omega,by go_num,HZ⟩
                       case measure=>simp [intOf];omega
                     | false=>
                       have cN:wr.cell? ⟨pb,n,none⟩=some (.bool false):=(fits_cell (unhide HZ).ar n _ (b8_get f3 n hn8)).trans (by rw [hf])
                       generalize decide ((n:Int)∈lst s1.pa)=i9
                       clear hf
                       go_wp2_with fail
                       go_roundw
                       case rel=>exact ⟨n+1,by omega,by go_num,HZ⟩
                       case measure=>simp [intOf];omega
               · obtain rfl:n=8:=by omega
                 have hd8:decide (((8:Nat):Int)<8)=false:=by decide
                 have HS2:Hid (Ly w wr b c (j+1) s1 L1 ln1 lr1 pb f3):=⟨(unhide HZ).lp,(unhide HZ).k2,(unhide HZ).ar,unhide HP3,(unhide HZ).pw⟩
                 go_wp2_with fail
                 go_roundw
                 case rel=>exact ⟨j+1,s1,L1,ln1,lr1,f3,by omega,by go_num,HS2⟩
                 case measure=>simp [intOf];omega
   · obtain rfl:j=X.length:=by omega
     have hd:decide ((X.length:Int)<(X.length:Int))=false:=by simp
     have HK:Hid (Kept [] w wr):=(unhide HS).lp.st.du.kept
     go_wp2_with (first |(go_at_call 9;refine(known9 _).mono ?_;rintro e W99 ⟨rfl,K99⟩;replace HK:=hide ((unhide HK).trans K99);refine Stp.go ?_))
     constructor
     go_wp2_with fail
     go_ret
     exact⟨rfl,unhide HK⟩
theorem pasts7 (ao:Option Addr) (c0:Nat) (X:List Sp) (w:World) (hX:RowS Sp.C 5 w ao X):Calls Try.prog 7 #[.slice ao X.length c0] w fun x w'=>x= .returned (.bool true)∧Kept [] w w':=by
 cases hl:decide ((200:Int)<(X.length:Int)) with
 | true=>exact pasts_a ao c0 X w hl
 | false=>exact pasts_b ao c0 X w hl hX
end Go.Proofs.Ytabicgbnloabnaa
