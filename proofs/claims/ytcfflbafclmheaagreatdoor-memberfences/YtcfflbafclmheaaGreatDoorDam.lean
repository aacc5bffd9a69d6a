/-
  Texts of the walks of member, shortened.
-/
import Derived.Test.YtcfflbafclmheaaGreatDoorDal
import Derived.Maps.AppendAt
set_option maxRecDepth 100000
set_option maxHeartbeats 100000000
set_option linter.unusedSimpArgs false
namespace Go.Proofs.YtcfflbafclmheaaGreatDoor
open Go.RowKit
open Le (Mm Qh Qo)
theorem wpBoxP {ops:Array Oper} {rest:List Oper} {op:Oper} {a:Act} {w:World} {Q:Exit→Act→World→Prop} (hgd:op.guard=none) (x:Operand) (ho:op.op= .box 32 x) (ao:Option Addr) (hx:a.eval x= .pointer ao)
  (h:∀W b,b=w.heap.size→Blk W b 32 [.pointer ao]→Kept [] w W→wpList Tryz.prog ops Q rest (a.put op.dst (P0 b)) W):wpList Tryz.prog ops Q (op::rest) a w:=
 wpList_plain hgd fun K hK=>by
  unfold Oper.wp execOp;simp only [ho,hx];exact hK _ _ (h _ _ rfl (Blk.new w 32 _) ((Kept.refl _ _).alloc _))
theorem view_a (b1 b2 b3:Nat) (ao:Option Addr) (o:Option Dv.Dev) (j:Job) (w W:World) (h:Dq w (.pointer ao) o) (hF:Vi.First w) (p:Nat) (L:List (Value×Int)) (hM:Mm [] w W [(b1,32,[.pointer ao]),(b2,23,Qf j),(b3,29,Vi.vwC Vi.zv)]) (hn:L.length=2) (hR:Rg W p (L.map Prod.fst)) (hq:∀q∈L,ZP W q.1 q.2) (hs:L.map Prod.snd= [qa (decide (0<Qs o)) 1,qa (Qu o j) 2]):
  Calls Tryz.prog 43 #[.slice (some ⟨p,0,none⟩) 2 2,fnV 46 #[P0 b1,P0 b2]] W fun e w'=>e= .returned (.tuple #[Qd (Vi.vwC (mview o j).1),.int .i64 (mview o j).2])∧Kept [] W w':=by
 unfold mview;refine ans43 p 2 2 46 _ W L hn (by omega) hR hq _ (by rw [hs]) _ (getV_zero _) (Vi.Qk (Vi.getV_len _)) (Vi.Ql _) ent46 ?_;intro h0 V hV;obtain⟨h1,h2⟩:=QS h0;obtain⟨h2,-⟩:=QS h2;have hk:=hM.kept.trans hV;obtain⟨b,g,D,rfl,e,hd,hm,hS,-⟩:=fits_dev h h1 h2;injection e with e;subst e;refine do46 b1 b2 (some ⟨b,0,none⟩) j _ V ((hM.at 0 _ rfl).kept hV (by simp)) ((hM.at 1 _ rfl).kept hV (by simp)) (Vi.Qk (Vi.getV_len _)) (Vi.Ql _) ?_;intro U hU;have hk2:=hk.trans hU;exact on47 b g D j U (hd.kept hk2 (by simp) (by simp)) (hF.kept hk2) hm (by have:=hd.ok.s0;omega)
theorem view13 (p:Value) (o:Option Dv.Dev) (j:Job) (w:World) (h:Dq w p o) (hF:Vi.First w):Calls Tryz.prog 13 #[p,Qd (Qf j)] w fun e w'=>e= .returned (.tuple #[Qd (Vi.vwC (mview o j).1),.int .i64 (mview o j).2])∧Kept [] w w':=by
 obtain⟨ao,rfl⟩:=h.ptr;have HA:Hid (∀(b1 b2 b3:Nat) (W:World) (p:Nat) (L:List (Value×Int)),Mm [] w W [(b1,32,[.pointer ao]),(b2,23,Qf j),(b3,29,Vi.vwC Vi.zv)]→L.length=2→Rg W p (L.map Prod.fst)→(∀q∈L,ZP W q.1 q.2)→L.map Prod.snd= [qa (decide (0<Qs o)) 1,qa (Qu o j) 2]→
     Calls Tryz.prog 43 #[.slice (some ⟨p,0,none⟩) 2 2,fnV 46 #[P0 b1,P0 b2]] W fun e w'=>e= .returned (.tuple #[Qd (Vi.vwC (mview o j).1),.int .i64 (mview o j).2])∧Kept [] W w'):=hide (fun b1 b2 b3 W p L=>view_a b1 b2 b3 ao o j w W h hF p L)
 have hl:(Vi.vwC (mview o j).1).length=19:=by
   unfold mview;split
   · exact Vi.Qk (Vi.getV_len _)
   · rfl
 obtain⟨r,hr⟩:∃r,mview o j=r:=⟨_,rfl⟩;rw [hr] at hl HA⊢;have HL:=hide hl;have HD:=hide h;clear hl h hr hF;have M:Hid (Mm [] w w []):=hide Mm.init;go_enter Tryz.func13,Tryz.ntmps13
 go_wp2_with (first |(refine wpBoxP rfl (.tmp 0) rfl ao rfl ?_;intro W1 b1 e1 B1 K1;replace M:=hide ((Qa M).new e1 B1 K1);clear e1 B1 K1;refine Stp.go ?_))
 constructor
 go_wp2_with (first |(refine Qp rfl (.tmp 1) rfl (Qf j) rfl ?_;intro W2 b2 e2 B2 K2;replace M:=hide ((Qa M).new e2 B2 K2);clear e2 B2 K2;refine Stp.go ?_))
 constructor
 go_wp2_with (first |(refine Qv (Vi.vwC Vi.zv) Vi.QE 4 rfl rfl rfl ?_;intro W3 b3 e3 B3 K3;replace M:=hide ((Qa M).new e3 B3 K3);clear e3 B3 K3;refine Stp.go ?_))
 constructor
 go_wp2_with fail
 refine wp_region_any mixed (QL 12 rfl (by kernel_rfl) [some (.pointer ao),none,some (.pointer ao),some (Qd (Qf j)),none,none,some (fnV 46 #[P0 b1,P0 b2]),some (.tuple #[Qd (Vi.vwC r.1),.int .i64 r.2]),some (Qd (Vi.vwC r.1)),some (.int .i64 r.2),none,some (.int .i64 r.2)] rfl (by kernel_rfl) (fun l vs W=>(SQ w (fun Z=> [(b1,32,[.pointer ao]),(b2,23,Qf j),(b3,29,Z)]) (Vi.vwC Vi.zv) (Vi.vwC r.1) 10 5 [(1,qa (decide (0<Qs o)) 1),(4,qa (Qu o j) 2)]) (fun i=>l.getD i false) vs W) (⟨fun _=>⟨(Qa M).drew,(by simp),(fun h=>by cases h)⟩,fun h=>by cases h⟩) ?_ ?_)
 · intro ix o' hi ho a' w2 l vs hls hlf hJ hout hin hdep hnot
   match ix,ho with
   | 0,ho=>
     obtain rfl:=Oj9 ho;have e0:=hout 2 (by kernel_rfl);replace e0:a'.eval (.tmp 2)=_:=e0.trans rfl;obtain⟨hM,-,-⟩:=hJ.1 (hnot 10 (by kernel_rfl));exact Zz (.tmp 2) rfl _ _ e0 (Qb (hM.at 0 _ rfl) 0 _ rfl) ⟨_,rfl,Qe rfl,Le.Qj [10,5,1,4] (SQ.loc (qs:= [(1,qa (decide (0<Qs o)) 1),(4,qa (Qu o j) 2)])) (by omega) (by decide) hJ⟩
   | 1,ho=>
     obtain rfl:=Oj9 ho;have e0:a'.eval (.tmp 6)= .pointer ao:=by have h9:=hin 0 6 (by kernel_rfl) (by kernel_rfl);exact h9.1.trans (Qc _ h9.2 rfl)
     obtain⟨hM,-,-⟩:=hJ.1 (hnot 10 (by kernel_rfl));refine Qq 44 _ _ rfl #[.pointer ao] (by simp [e0]) (cg44 _ _) ((there44 (.pointer ao) o w2 ((Qa HD).kept hM.kept)).mono ?_);rintro e w3 ⟨q,rfl,hq1,hk3⟩;exact⟨_,rfl,_,rfl,QA rfl,Le.QJ (by omega) (SQ.ask hJ (hnot 10 (by kernel_rfl)) (hnot 5 (by kernel_rfl)) hk3 hq1 (by decide) (by decide) (by simp))⟩
   | 2,ho=>
     obtain rfl:=Oj9 ho;have e0:=hout 2 (by kernel_rfl);replace e0:a'.eval (.tmp 2)=_:=e0.trans rfl;obtain⟨hM,-,-⟩:=hJ.1 (hnot 10 (by kernel_rfl));exact Zz (.tmp 2) rfl _ _ e0 (Qb (hM.at 0 _ rfl) 0 _ rfl) ⟨_,rfl,Qe rfl,Le.Qj [10,5,1,4] (SQ.loc (qs:= [(1,qa (decide (0<Qs o)) 1),(4,qa (Qu o j) 2)])) (by omega) (by decide) hJ⟩
   | 3,ho=>
     obtain rfl:=Oj9 ho;have e0:=hout 3 (by kernel_rfl);replace e0:a'.eval (.tmp 3)=_:=e0.trans rfl;obtain⟨hM,-,-⟩:=hJ.1 (hnot 10 (by kernel_rfl));exact Qw Zv (.tmp 3) rfl b2 0 e0 (Qf j) rfl (hM.at 1 _ rfl).range ⟨_,rfl,Qe rfl,Le.Qj [10,5,1,4] (SQ.loc (qs:= [(1,qa (decide (0<Qs o)) 1),(4,qa (Qu o j) 2)])) (by omega) (by decide) hJ⟩
   | 4,ho=>
     obtain rfl:=Oj9 ho;have e0:a'.eval (.tmp 8)= .pointer ao:=by have h9:=hin 2 8 (by kernel_rfl) (by kernel_rfl);exact h9.1.trans (Qc _ h9.2 rfl)
     have e1:a'.eval (.tmp 9)=Qd (Qf j):=by have h9:=hin 3 9 (by kernel_rfl) (by kernel_rfl);exact h9.1.trans (Qc _ h9.2 rfl)
     obtain⟨hM,-,-⟩:=hJ.1 (hnot 10 (by kernel_rfl));refine Qq 45 _ _ rfl #[.pointer ao,Qd (Qf j)] (by simp [e0,e1]) (cg45 _ _) ((fits45 (.pointer ao) o j w2 ((Qa HD).kept hM.kept)).mono ?_);rintro e w3 ⟨q,rfl,hq1,hk3⟩;exact⟨_,rfl,_,rfl,QA rfl,Le.QJ (by omega) (SQ.ask hJ (hnot 10 (by kernel_rfl)) (hnot 5 (by kernel_rfl)) hk3 hq1 (by decide) (by decide) (by simp))⟩
   | 5,ho=>
     obtain rfl:=Oj9 ho;have e0:a'.eval (.tmp 7)=vs 1:=(hin 1 7 (by kernel_rfl) (by kernel_rfl)).1;have e1:a'.eval (.tmp 10)=vs 4:=(hin 4 10 (by kernel_rfl) (by kernel_rfl)).1;obtain⟨hM,hQ,-⟩:=hJ.1 (hnot 10 (by kernel_rfl));have h1:=hdep 1 (by kernel_rfl);have h4:=hdep 4 (by kernel_rfl);exact o_bs2 (.tmp 7) (.tmp 10) rfl _ _ e0 e1 (hQ (1,qa (decide (0<Qs o)) 1) (by simp) h1) (hQ (4,qa (Qu o j) 2) (by simp) h4) ⟨_,rfl,QA rfl,Le.QJ (by omega) (SQ.row hJ (hnot 10 (by kernel_rfl)) (by intro q hq;simp at hq;rcases hq with rfl | rfl;exact h1;exact h4) (by decide) (by simp))⟩
   | 6,ho=>
     obtain rfl:=Oj9 ho;have e0:=hout 2 (by kernel_rfl);replace e0:a'.eval (.tmp 2)=_:=e0.trans rfl;have e1:=hout 3 (by kernel_rfl);replace e1:a'.eval (.tmp 3)=_:=e1.trans rfl;have f0:a'.eval (.tmp 2)=P0 b1:=e0;have f1:a'.eval (.tmp 3)=P0 b2:=e1;exact o_mkf 46 _ rfl #[P0 b1,P0 b2] (by simp [f0,f1]) ⟨_,rfl,Qe rfl,Le.Qj [10,5,1,4] (SQ.loc (qs:= [(1,qa (decide (0<Qs o)) 1),(4,qa (Qu o j) 2)])) (by omega) (by decide) hJ⟩
   | 7,ho=>
     obtain rfl:=Oj9 ho;have e0:a'.eval (.tmp 11)=vs 5:=(hin 5 11 (by kernel_rfl) (by kernel_rfl)).1;have e1:a'.eval (.tmp 12)=fnV 46 #[P0 b1,P0 b2]:=by have h9:=hin 6 12 (by kernel_rfl) (by kernel_rfl);exact h9.1.trans (Qc _ h9.2 rfl)
     obtain⟨hM,-,-⟩:=hJ.1 (hnot 10 (by kernel_rfl));obtain⟨p,hp,L,hLn,hLr,hLq,hLs⟩:=SQ.list hJ (hnot 10 (by kernel_rfl)) (hdep 5 (by kernel_rfl));refine Qq 43 _ _ rfl #[.slice (some ⟨p,0,none⟩) 2 2,fnV 46 #[P0 b1,P0 b2]] (by simp only [List.map_toArray,List.map_cons,List.map_nil,e0,e1];rw [hp];rfl) (cg43 _ _) ((Qa HA b1 b2 b3 w2 p L hM hLn hLr hLq hLs).mono ?_);rintro e w3 ⟨rfl,hk3⟩;exact⟨_,rfl,_,rfl,Qe rfl,Le.Qj [10,5,1,4] (SQ.loc (qs:= [(1,qa (decide (0<Qs o)) 1),(4,qa (Qu o j) 2)])) (by omega) (by decide) (SQ.step hJ (hnot 10 (by kernel_rfl)) hk3)⟩
   | 8,ho=>
     obtain rfl:=Oj9 ho;have e0:a'.eval (.tmp 13)= .tuple #[Qd (Vi.vwC r.1),.int .i64 r.2]:=by have h9:=hin 7 13 (by kernel_rfl) (by kernel_rfl);exact h9.1.trans (Qc _ h9.2 rfl)
     exact o_ext (.tmp 13) 0 rfl _ _ e0 rfl ⟨_,rfl,Qe rfl,Le.Qj [10,5,1,4] (SQ.loc (qs:= [(1,qa (decide (0<Qs o)) 1),(4,qa (Qu o j) 2)])) (by omega) (by decide) hJ⟩
   | 9,ho=>
     obtain rfl:=Oj9 ho;have e0:a'.eval (.tmp 13)= .tuple #[Qd (Vi.vwC r.1),.int .i64 r.2]:=by have h9:=hin 7 13 (by kernel_rfl) (by kernel_rfl);exact h9.1.trans (Qc _ h9.2 rfl)
     exact o_ext (.tmp 13) 1 rfl _ _ e0 rfl ⟨_,rfl,Qe rfl,Le.Qj [10,5,1,4] (SQ.loc (qs:= [(1,qa (decide (0<Qs o)) 1),(4,qa (Qu o j) 2)])) (by omega) (by decide) hJ⟩
   | 10,ho=>
     obtain rfl:=Oj9 ho;have e0:=hout 4 (by kernel_rfl);replace e0:a'.eval (.tmp 4)=_:=e0.trans rfl;have e1:a'.eval (.tmp 14)=Qd (Vi.vwC r.1):=by have h9:=hin 8 14 (by kernel_rfl) (by kernel_rfl);exact h9.1.trans (Qc _ h9.2 rfl)
     obtain⟨hM,-,-⟩:=hJ.1 hlf;exact Zh Vi.Qn (.tmp 4) (.tmp 14) rfl rfl b3 0 (Vi.vwC r.1) e0 e1 (Qa HL) (Vi.Ql _) ((hM.at 2 _ rfl).there (show 0+19≤(Vi.vwC Vi.zv).length by decide)) ⟨undef,rfl,QA rfl,Le.QJ (by omega) (SQ.lay (hM.sets 2 rfl (Vi.vwC r.1) (by rw [Qa HL];rfl)))⟩
   | 11,ho=>
     obtain rfl:=Oj9 ho;have e0:a'.eval (.tmp 15)= .int .i64 r.2:=by have h9:=hin 9 15 (by kernel_rfl) (by kernel_rfl);exact h9.1.trans (Qc _ h9.2 rfl)
     exact QI (.tmp 15) rfl _ e0 ⟨_,rfl,Qe rfl,Le.Qj [10,5,1,4] (SQ.loc (qs:= [(1,qa (decide (0<Qs o)) 1),(4,qa (Qu o j) 2)])) (by omega) (by decide) hJ⟩
 intro l_ vs4 V4 hl hJ htold;have t0:vs4 0= .pointer ao:=Qc _ (htold 0 (by decide)) rfl;have t2:vs4 2= .pointer ao:=Qc _ (htold 2 (by decide)) rfl;have t3:vs4 3=Qd (Qf j):=Qc _ (htold 3 (by decide)) rfl;have t6:vs4 6=fnV 46 #[P0 b1,P0 b2]:=Qc _ (htold 6 (by decide)) rfl;have t7:vs4 7= .tuple #[Qd (Vi.vwC r.1),.int .i64 r.2]:=Qc _ (htold 7 (by decide)) rfl;have t8:vs4 8=Qd (Vi.vwC r.1):=Qc _ (htold 8 (by decide)) rfl;have t9:vs4 9= .int .i64 r.2:=Qc _ (htold 9 (by decide)) rfl;have t11:vs4 11= .int .i64 r.2:=Qc _ (htold 11 (by decide)) rfl;rw [show (List.range 12).map vs4= [vs4 0,vs4 1,vs4 2,vs4 3,vs4 4,vs4 5,vs4 6,vs4 7,vs4 8,vs4 9,vs4 10,vs4 11] from rfl];simp only [t0,t2,t3,t6,t7,t8,t9,t11,Qz,Act.put,List.setIfInBounds_toArray,List.set_cons_succ,List.set_cons_zero];clear t0 t2 t3 t6 t7 t8 t9 t11 htold;have hE:=hJ.2 (hl 10 (by decide));have M9:=hide hE;clear hJ hl hE M;go_wp2_with fail
 refine bodyPost_ret (res13 _ b3 _ _ _ rfl rfl (Qa HL) ((Qa M9).at 2 _ rfl)) rfl ?_;exact⟨rfl,(Qa M9).kept⟩
theorem wpBoxI {ops:Array Oper} {rest:List Oper} {op:Oper} {a:Act} {w:World} {Q:Exit→Act→World→Prop} {T:Nat} (hgd:op.guard=none) (x:Operand) (ho:op.op= .box T x) (n:Int) (hx:a.eval x= .int .i64 n)
  (h:∀W b,b=w.heap.size→Blk W b T [.int .i64 n]→Kept [] w W→wpList Tryz.prog ops Q rest (a.put op.dst (P0 b)) W):wpList Tryz.prog ops Q (op::rest) a w:=
 wpList_plain hgd fun K hK=>by
  unfold Oper.wp execOp;simp only [ho,hx];exact hK _ _ (h _ _ rfl (Blk.new w T _) ((Kept.refl _ _).alloc _))
theorem lease_a (b1 b2 b3 b4:Nat) (ao:Option Addr) (o:Option Dv.Dev) (j:Job) (k:Int) (w W:World) (h:Dq w (.pointer ao) o) (p:Nat) (L:List (Value×Int)) (hM:Mm [] w W [(b1,32,[.pointer ao]),(b2,23,Qf j),(b3,3,[.int .i64 k]),(b4,73,Le.le0.C)]) (hn:L.length=3) (hR:Rg W p (L.map Prod.fst)) (hq:∀q∈L,ZP W q.1 q.2) (hs:L.map Prod.snd= [qa (decide (0<Qs o)) 1,qa (Qu o j) 2,qa (Qt j k) 2]):
  Calls Tryz.prog 63 #[.slice (some ⟨p,0,none⟩) 3 3,fnV 65 #[P0 b1,P0 b2,P0 b3]] W fun e w'=>e= .returned (.tuple #[Qd (Le.Le.C (mlease o j k).1),.int .i64 (mlease o j k).2])∧Kept [] W w':=by
 unfold mlease;refine ans63 p 3 3 65 _ W L hn (by omega) hR hq _ (by rw [hs]) _ (getL_zero _) rfl (Le.QV _) ent65 ?_;intro h0 V hV;obtain⟨h1,h2⟩:=QS h0;obtain⟨h2,h3⟩:=QS h2;obtain⟨h3,-⟩:=QS h3;have h3:=qa_zero (by decide) h3;simp only [Qt,Bool.and_eq_true,decide_eq_true_eq] at h3;have hk:=hM.kept.trans hV;obtain⟨b,g,D,rfl,e,hd,hm,hS,hN⟩:=fits_dev h h1 h2;injection e with e;subst e;obtain⟨n,rfl⟩:=Int.eq_ofNat_of_zero_le h3.1;have hn8:=hd.ok.n1;have hp:=Ar.Job.p_le hm;have hL:=Ar.Job.L_le hm;refine do65 b1 b2 b3 (some ⟨b,0,none⟩) j n _ V ((hM.at 0 _ rfl).kept hV (by simp)) ((hM.at 1 _ rfl).kept hV (by simp)) ((hM.at 2 _ rfl).kept hV (by simp)) rfl (Le.QV _) ?_;intro U hU;have hk2:=hk.trans hU;exact on66 b g D j n (1+n) (by omega) rfl U (hd.kept hk2 (by simp) (by simp)) hm (by omega)
theorem lease30 (p:Value) (o:Option Dv.Dev) (j:Job) (k:Int) (w:World) (h:Dq w p o):Calls Tryz.prog 30 #[p,Qd (Qf j),.int .i64 k] w fun e w'=>e= .returned (.tuple #[Qd (Le.Le.C (mlease o j k).1),.int .i64 (mlease o j k).2])∧Kept [] w w':=by
 obtain⟨ao,rfl⟩:=h.ptr;have HA:Hid (∀(b1 b2 b3 b4:Nat) (W:World) (p:Nat) (L:List (Value×Int)),Mm [] w W [(b1,32,[.pointer ao]),(b2,23,Qf j),(b3,3,[.int .i64 k]),(b4,73,Le.le0.C)]→L.length=3→Rg W p (L.map Prod.fst)→(∀q∈L,ZP W q.1 q.2)→L.map Prod.snd= [qa (decide (0<Qs o)) 1,qa (Qu o j) 2,qa (Qt j k) 2]→
    Calls Tryz.prog 63 #[.slice (some ⟨p,0,none⟩) 3 3,fnV 65 #[P0 b1,P0 b2,P0 b3]] W fun e w'=>e= .returned (.tuple #[Qd (Le.Le.C (mlease o j k).1),.int .i64 (mlease o j k).2])∧Kept [] W w'):=hide (fun b1 b2 b3 b4 W p L=>lease_a b1 b2 b3 b4 ao o j k w W h p L)
 obtain⟨r,hr⟩:∃r,mlease o j k=r:=⟨_,rfl⟩;rw [hr] at HA⊢;have HL:Hid ((Le.Le.C r.1).length=3):=hide rfl;have HD:=hide h;clear h hr;have M:Hid (Mm [] w w []):=hide Mm.init;go_enter Tryz.func30,Tryz.ntmps30
 go_wp2_with (first |(refine wpBoxP rfl (.tmp 0) rfl ao rfl ?_;intro W1 b1 e1 B1 K1;replace M:=hide ((Qa M).new e1 B1 K1);clear e1 B1 K1;refine Stp.go ?_))
 constructor
 go_wp2_with (first |(refine Qp rfl (.tmp 1) rfl (Qf j) rfl ?_;intro W2 b2 e2 B2 K2;replace M:=hide ((Qa M).new e2 B2 K2);clear e2 B2 K2;refine Stp.go ?_))
 constructor
 go_wp2_with (first |(refine wpBoxI rfl (.tmp 2) rfl k rfl ?_;intro W3 b3 e3 B3 K3;replace M:=hide ((Qa M).new e3 B3 K3);clear e3 B3 K3;refine Stp.go ?_))
 constructor
 go_wp2_with (first |(refine Qv (Le.le0.C) Le.QT 6 rfl rfl rfl ?_;intro W4 b4 e4 B4 K4;replace M:=hide ((Qa M).new e4 B4 K4);clear e4 B4 K4;refine Stp.go ?_))
 constructor
 go_wp2_with fail
 refine wp_region_any mixed (QL 15 rfl (by kernel_rfl) [some (.pointer ao),none,some (.pointer ao),some (Qd (Qf j)),none,some (Qd (Qf j)),some (.int .i64 k),none,none,some (fnV 65 #[P0 b1,P0 b2,P0 b3]),some (.tuple #[Qd (Le.Le.C r.1),.int .i64 r.2]),some (Qd (Le.Le.C r.1)),some (.int .i64 r.2),none,some (.int .i64 r.2)] rfl (by kernel_rfl) (fun l vs W=>(SQ w (fun Z=> [(b1,32,[.pointer ao]),(b2,23,Qf j),(b3,3,[.int .i64 k]),(b4,73,Z)]) (Le.le0.C) (Le.Le.C r.1) 13 8 [(1,qa (decide (0<Qs o)) 1),(4,qa (Qu o j) 2),(7,qa (Qt j k) 2)]) (fun i=>l.getD i false) vs W) (⟨fun _=>⟨(Qa M).drew,(by simp),(fun h=>by cases h)⟩,fun h=>by cases h⟩) ?_ ?_)
 · intro ix o' hi ho a' w2 l vs hls hlf hJ hout hin hdep hnot
   match ix,ho with
   | 0,ho=>
    obtain rfl:=Oj9 ho;have e0:=hout 3 (by kernel_rfl);replace e0:a'.eval (.tmp 3)=_:=e0.trans rfl;obtain⟨hM,-,-⟩:=hJ.1 (hnot 13 (by kernel_rfl));exact Zz (.tmp 3) rfl _ _ e0 (Qb (hM.at 0 _ rfl) 0 _ rfl) ⟨_,rfl,Qe rfl,Le.Qj [13,8,1,4,7] (SQ.loc (qs:= [(1,qa (decide (0<Qs o)) 1),(4,qa (Qu o j) 2),(7,qa (Qt j k) 2)])) (by omega) (by decide) hJ⟩
   | 1,ho=>
    obtain rfl:=Oj9 ho;have e0:a'.eval (.tmp 8)= .pointer ao:=by have h9:=hin 0 8 (by kernel_rfl) (by kernel_rfl);exact h9.1.trans (Qc _ h9.2 rfl)
    obtain⟨hM,-,-⟩:=hJ.1 (hnot 13 (by kernel_rfl));refine Qq 44 _ _ rfl #[.pointer ao] (by simp [e0]) (cg44 _ _) ((there44 (.pointer ao) o w2 ((Qa HD).kept hM.kept)).mono ?_);rintro e w3 ⟨q,rfl,hq1,hk3⟩;exact⟨_,rfl,_,rfl,QA rfl,Le.QJ (by omega) (SQ.ask hJ (hnot 13 (by kernel_rfl)) (hnot 8 (by kernel_rfl)) hk3 hq1 (by decide) (by decide) (by simp))⟩
   | 2,ho=>
    obtain rfl:=Oj9 ho;have e0:=hout 3 (by kernel_rfl);replace e0:a'.eval (.tmp 3)=_:=e0.trans rfl;obtain⟨hM,-,-⟩:=hJ.1 (hnot 13 (by kernel_rfl));exact Zz (.tmp 3) rfl _ _ e0 (Qb (hM.at 0 _ rfl) 0 _ rfl) ⟨_,rfl,Qe rfl,Le.Qj [13,8,1,4,7] (SQ.loc (qs:= [(1,qa (decide (0<Qs o)) 1),(4,qa (Qu o j) 2),(7,qa (Qt j k) 2)])) (by omega) (by decide) hJ⟩
   | 3,ho=>
    obtain rfl:=Oj9 ho;have e0:=hout 4 (by kernel_rfl);replace e0:a'.eval (.tmp 4)=_:=e0.trans rfl;obtain⟨hM,-,-⟩:=hJ.1 (hnot 13 (by kernel_rfl));exact Qw Zv (.tmp 4) rfl b2 0 e0 (Qf j) rfl (hM.at 1 _ rfl).range ⟨_,rfl,Qe rfl,Le.Qj [13,8,1,4,7] (SQ.loc (qs:= [(1,qa (decide (0<Qs o)) 1),(4,qa (Qu o j) 2),(7,qa (Qt j k) 2)])) (by omega) (by decide) hJ⟩
   | 4,ho=>
    obtain rfl:=Oj9 ho;have e0:a'.eval (.tmp 10)= .pointer ao:=by have h9:=hin 2 10 (by kernel_rfl) (by kernel_rfl);exact h9.1.trans (Qc _ h9.2 rfl)
    have e1:a'.eval (.tmp 11)=Qd (Qf j):=by have h9:=hin 3 11 (by kernel_rfl) (by kernel_rfl);exact h9.1.trans (Qc _ h9.2 rfl)
    obtain⟨hM,-,-⟩:=hJ.1 (hnot 13 (by kernel_rfl));refine Qq 45 _ _ rfl #[.pointer ao,Qd (Qf j)] (by simp [e0,e1]) (cg45 _ _) ((fits45 (.pointer ao) o j w2 ((Qa HD).kept hM.kept)).mono ?_);rintro e w3 ⟨q,rfl,hq1,hk3⟩;exact⟨_,rfl,_,rfl,QA rfl,Le.QJ (by omega) (SQ.ask hJ (hnot 13 (by kernel_rfl)) (hnot 8 (by kernel_rfl)) hk3 hq1 (by decide) (by decide) (by simp))⟩
   | 5,ho=>
    obtain rfl:=Oj9 ho;have e0:=hout 4 (by kernel_rfl);replace e0:a'.eval (.tmp 4)=_:=e0.trans rfl;obtain⟨hM,-,-⟩:=hJ.1 (hnot 13 (by kernel_rfl));exact Qw Zv (.tmp 4) rfl b2 0 e0 (Qf j) rfl (hM.at 1 _ rfl).range ⟨_,rfl,Qe rfl,Le.Qj [13,8,1,4,7] (SQ.loc (qs:= [(1,qa (decide (0<Qs o)) 1),(4,qa (Qu o j) 2),(7,qa (Qt j k) 2)])) (by omega) (by decide) hJ⟩
   | 6,ho=>
    obtain rfl:=Oj9 ho;have e0:=hout 5 (by kernel_rfl);replace e0:a'.eval (.tmp 5)=_:=e0.trans rfl;obtain⟨hM,-,-⟩:=hJ.1 (hnot 13 (by kernel_rfl));exact Ar.Zx (.tmp 5) rfl _ _ e0 (Qb (hM.at 2 _ rfl) 0 _ rfl) ⟨_,rfl,Qe rfl,Le.Qj [13,8,1,4,7] (SQ.loc (qs:= [(1,qa (decide (0<Qs o)) 1),(4,qa (Qu o j) 2),(7,qa (Qt j k) 2)])) (by omega) (by decide) hJ⟩
   | 7,ho=>
    obtain rfl:=Oj9 ho;have e0:a'.eval (.tmp 13)=Qd (Qf j):=by have h9:=hin 5 13 (by kernel_rfl) (by kernel_rfl);exact h9.1.trans (Qc _ h9.2 rfl)
    have e1:a'.eval (.tmp 14)= .int .i64 k:=by have h9:=hin 6 14 (by kernel_rfl) (by kernel_rfl);exact h9.1.trans (Qc _ h9.2 rfl)
    obtain⟨hM,-,-⟩:=hJ.1 (hnot 13 (by kernel_rfl));refine Qq 64 _ _ rfl #[Qd (Qf j),.int .i64 k] (by simp [e0,e1]) (cg64 _ _) ((node64 j k w2).mono ?_);rintro e w3 ⟨q,rfl,hq1,hk3⟩;exact⟨_,rfl,_,rfl,QA rfl,Le.QJ (by omega) (SQ.ask hJ (hnot 13 (by kernel_rfl)) (hnot 8 (by kernel_rfl)) hk3 hq1 (by decide) (by decide) (by simp))⟩
   | 8,ho=>
    obtain rfl:=Oj9 ho;have e0:a'.eval (.tmp 9)=vs 1:=(hin 1 9 (by kernel_rfl) (by kernel_rfl)).1;have e1:a'.eval (.tmp 12)=vs 4:=(hin 4 12 (by kernel_rfl) (by kernel_rfl)).1;have e2:a'.eval (.tmp 15)=vs 7:=(hin 7 15 (by kernel_rfl) (by kernel_rfl)).1;obtain⟨hM,hQ,-⟩:=hJ.1 (hnot 13 (by kernel_rfl));have h1:=hdep 1 (by kernel_rfl);have h4:=hdep 4 (by kernel_rfl);have h7:=hdep 7 (by kernel_rfl);exact o_bs3 (.tmp 9) (.tmp 12) (.tmp 15) rfl _ _ _ e0 e1 e2 (hQ (1,qa (decide (0<Qs o)) 1) (by simp) h1) (hQ (4,qa (Qu o j) 2) (by simp) h4) (hQ (7,qa (Qt j k) 2) (by simp) h7) ⟨_,rfl,QA rfl,Le.QJ (by omega) (SQ.row hJ (hnot 13 (by kernel_rfl)) (by intro q hq;simp at hq;rcases hq with rfl | rfl | rfl;exact h1;exact h4;exact h7) (by decide) (by simp))⟩
   | 9,ho=>
    obtain rfl:=Oj9 ho;have e0:=hout 3 (by kernel_rfl);replace e0:a'.eval (.tmp 3)=_:=e0.trans rfl;have e1:=hout 4 (by kernel_rfl);replace e1:a'.eval (.tmp 4)=_:=e1.trans rfl;have e2:=hout 5 (by kernel_rfl);replace e2:a'.eval (.tmp 5)=_:=e2.trans rfl;have f0:a'.eval (.tmp 3)=P0 b1:=e0;have f1:a'.eval (.tmp 4)=P0 b2:=e1;have f2:a'.eval (.tmp 5)=P0 b3:=e2;exact o_mkf 65 _ rfl #[P0 b1,P0 b2,P0 b3] (by simp [f0,f1,f2]) ⟨_,rfl,Qe rfl,Le.Qj [13,8,1,4,7] (SQ.loc (qs:= [(1,qa (decide (0<Qs o)) 1),(4,qa (Qu o j) 2),(7,qa (Qt j k) 2)])) (by omega) (by decide) hJ⟩
   | 10,ho=>
    obtain rfl:=Oj9 ho;have e0:a'.eval (.tmp 16)=vs 8:=(hin 8 16 (by kernel_rfl) (by kernel_rfl)).1;have e1:a'.eval (.tmp 17)=fnV 65 #[P0 b1,P0 b2,P0 b3]:=by have h9:=hin 9 17 (by kernel_rfl) (by kernel_rfl);exact h9.1.trans (Qc _ h9.2 rfl)
    obtain⟨hM,-,-⟩:=hJ.1 (hnot 13 (by kernel_rfl));obtain⟨p,hp,L,hLn,hLr,hLq,hLs⟩:=SQ.list hJ (hnot 13 (by kernel_rfl)) (hdep 8 (by kernel_rfl));refine Qq 63 _ _ rfl #[.slice (some ⟨p,0,none⟩) 3 3,fnV 65 #[P0 b1,P0 b2,P0 b3]] (by simp only [List.map_toArray,List.map_cons,List.map_nil,e0,e1];rw [hp];rfl) (cg63 _ _) ((Qa HA b1 b2 b3 b4 w2 p L hM hLn hLr hLq hLs).mono ?_);rintro e w3 ⟨rfl,hk3⟩;exact⟨_,rfl,_,rfl,Qe rfl,Le.Qj [13,8,1,4,7] (SQ.loc (qs:= [(1,qa (decide (0<Qs o)) 1),(4,qa (Qu o j) 2),(7,qa (Qt j k) 2)])) (by omega) (by decide) (SQ.step hJ (hnot 13 (by kernel_rfl)) hk3)⟩
   | 11,ho=>
    obtain rfl:=Oj9 ho;have e0:a'.eval (.tmp 18)= .tuple #[Qd (Le.Le.C r.1),.int .i64 r.2]:=by have h9:=hin 10 18 (by kernel_rfl) (by kernel_rfl);exact h9.1.trans (Qc _ h9.2 rfl)
    exact o_ext (.tmp 18) 0 rfl _ _ e0 rfl ⟨_,rfl,Qe rfl,Le.Qj [13,8,1,4,7] (SQ.loc (qs:= [(1,qa (decide (0<Qs o)) 1),(4,qa (Qu o j) 2),(7,qa (Qt j k) 2)])) (by omega) (by decide) hJ⟩
   | 12,ho=>
    obtain rfl:=Oj9 ho;have e0:a'.eval (.tmp 18)= .tuple #[Qd (Le.Le.C r.1),.int .i64 r.2]:=by have h9:=hin 10 18 (by kernel_rfl) (by kernel_rfl);exact h9.1.trans (Qc _ h9.2 rfl)
    exact o_ext (.tmp 18) 1 rfl _ _ e0 rfl ⟨_,rfl,Qe rfl,Le.Qj [13,8,1,4,7] (SQ.loc (qs:= [(1,qa (decide (0<Qs o)) 1),(4,qa (Qu o j) 2),(7,qa (Qt j k) 2)])) (by omega) (by decide) hJ⟩
   | 13,ho=>
    obtain rfl:=Oj9 ho;have e0:=hout 6 (by kernel_rfl);replace e0:a'.eval (.tmp 6)=_:=e0.trans rfl;have e1:a'.eval (.tmp 19)=Qd (Le.Le.C r.1):=by have h9:=hin 11 19 (by kernel_rfl) (by kernel_rfl);exact h9.1.trans (Qc _ h9.2 rfl)
    obtain⟨hM,-,-⟩:=hJ.1 hlf;exact Zh Le.QC (.tmp 6) (.tmp 19) rfl rfl b4 0 (Le.Le.C r.1) e0 e1 rfl (Le.QV _) ((hM.at 3 _ rfl).there (show 0+3≤Le.le0.C.length by decide)) ⟨undef,rfl,QA rfl,Le.QJ (by omega) (SQ.lay (hM.sets 3 rfl (Le.Le.C r.1) rfl))⟩
   | 14,ho=>
    obtain rfl:=Oj9 ho;have e0:a'.eval (.tmp 20)= .int .i64 r.2:=by have h9:=hin 12 20 (by kernel_rfl) (by kernel_rfl);exact h9.1.trans (Qc _ h9.2 rfl)
    exact QI (.tmp 20) rfl _ e0 ⟨_,rfl,Qe rfl,Le.Qj [13,8,1,4,7] (SQ.loc (qs:= [(1,qa (decide (0<Qs o)) 1),(4,qa (Qu o j) 2),(7,qa (Qt j k) 2)])) (by omega) (by decide) hJ⟩
 intro l_ vs4 V4 hl hJ htold;have t0:vs4 0= .pointer ao:=Qc _ (htold 0 (by decide)) rfl;have t2:vs4 2= .pointer ao:=Qc _ (htold 2 (by decide)) rfl;have t3:vs4 3=Qd (Qf j):=Qc _ (htold 3 (by decide)) rfl;have t5:vs4 5=Qd (Qf j):=Qc _ (htold 5 (by decide)) rfl;have t6:vs4 6= .int .i64 k:=Qc _ (htold 6 (by decide)) rfl;have t9:vs4 9=fnV 65 #[P0 b1,P0 b2,P0 b3]:=Qc _ (htold 9 (by decide)) rfl;have t10:vs4 10= .tuple #[Qd (Le.Le.C r.1),.int .i64 r.2]:=Qc _ (htold 10 (by decide)) rfl;have t11:vs4 11=Qd (Le.Le.C r.1):=Qc _ (htold 11 (by decide)) rfl;have t12:vs4 12= .int .i64 r.2:=Qc _ (htold 12 (by decide)) rfl;have t14:vs4 14= .int .i64 r.2:=Qc _ (htold 14 (by decide)) rfl;rw [show (List.range 15).map vs4= [vs4 0,vs4 1,vs4 2,vs4 3,vs4 4,vs4 5,vs4 6,vs4 7,vs4 8,vs4 9,vs4 10,vs4 11,vs4 12,vs4 13,vs4 14] from rfl];simp only [t0,t2,t3,t5,t6,t9,t10,t11,t12,t14,Qz,Act.put,List.setIfInBounds_toArray,List.set_cons_succ,List.set_cons_zero];clear t0 t2 t3 t5 t6 t9 t10 t11 t12 t14 htold;have hE:=hJ.2 (hl 13 (by decide));have M9:=hide hE;clear hJ hl hE M;go_wp2_with fail
 refine bodyPost_ret (res30 _ b4 _ _ _ rfl rfl (Qa HL) ((Qa M9).at 3 _ rfl)) rfl ?_;exact⟨rfl,(Qa M9).kept⟩
open Go.RowKit
open Le (Mm Qh Qo)
def Qr (W:World) (base:Nat) (v:Value) (L:List (Value×Int)):Prop:=W.ownsRow base 92 1 v L.length (L.map Prod.fst)∧∀q∈L,ZP W q.1 q.2
theorem Qr.k {W W':World} {base:Nat} {v:Value} {L:List (Value×Int)} (h:Qr W base v L) (k:Kept [] W W'):Qr W' base v L:=by
 refine⟨⟨h.1.1,?_⟩,fun q hq=>(h.2 q hq).mono k⟩;rcases h.1.2 with h1 | ⟨g,cap,cur,rfl,h1,h2,h3⟩
 · exact .inl h1
 · exact .inr ⟨g,cap,cur,rfl,h1,k.heap h2 (by simp),h3⟩
theorem Qr.at {W:World} {base:Nat} {v:Value} {L:List (Value×Int)} (h:Qr W base v L) (hL:0<L.length):∃p c,v= .slice (some ⟨p,0,none⟩) L.length c∧base≤p∧p<W.heap.size∧L.length≤c∧Rg W p (L.map Prod.fst):=by
 rcases h.1.2 with ⟨-,e⟩ | ⟨g,cap,cur,rfl,h1,h2,h3,-,h5,h6⟩
 · omega
 · refine⟨g,cap,rfl,h1,lt_of_block h2,h3,fun k u hk=> ?_⟩;rw [cell_of_block h2,← Array.getElem?_toList];have hl:k<L.length:=by have:=(List.getElem?_eq_some_iff.1 hk).1;simpa using this
   rw [← h6,List.getElem?_take_of_lt (by omega)] at hk;exact hk
theorem Qr.own {W:World} {base:Nat} {v:Value} {L:List (Value×Int)} (h:Qr W base v L) {k:Nat} (e:v.ownBlock=some k):base≤k∧k<W.heap.size∧∃cs p,W.heap[k]?=some (.cells cs 92 p):=by
 rcases h.1.2 with ⟨rfl,-⟩ | ⟨g,cap,cur,rfl,h1,h2,-⟩
 · cases e
 · injection e with e;have e:g=k:=e;subst e;exact⟨h1,lt_of_block h2,_,_,h2⟩
theorem Tryz.sl95:Tryz.prog.underlying 95=some (.slice 92):=by kernel_rfl
theorem Tryz.info92:(Tryz.prog.info? 92).map (fun i=>(i.zero,i.size,i.bytes))=some (some Value.nilFunc,1,8):=by kernel_rfl
theorem ques_one {w:World} {q:Value} {x:Int} (h:ZP w q x):q.oneCell'=true:=by
 obtain⟨f,cs,rfl,-⟩:=h;rfl
theorem run_app95 (w:World) (ty:TypeId) (v:Value) (base:Nat) (L N:List (Value×Int)) (h:Qr w base v L) (hb:base≤w.heap.size) (hb0:0<base) (g c:Nat) (hR:Rg w g (N.map Prod.fst)) (hN:∀q∈N,ZP w q.1 q.2) (hn:L.length+N.length≤1000):
   ∃v' w',(Builtin.append_ #[95,95] ty #[v,.slice (some ⟨g,0,none⟩) N.length c]).run Tryz.prog w= .ok v' w'∧Qr w' base v' (L++N)∧Kept v.ownBlock.toList w w'∧K92 w w':=by
 obtain⟨i,hi,hz0,hz1,hz2⟩:=info_parts Tryz.info92;obtain⟨v',w',hr,g2,g3,_,_⟩:=run_append_own_at (P:=Tryz.prog) w base 95 ty 92 i _ 1 8 Tryz.sl95 hi hz0 hz1 hz2 rfl (by decide) v L.length (L.map Prod.fst) h.1 ⟨g,0,none⟩ N.length c (N.map Prod.fst) (by simp) (fun j u hj=>by rw [Addr.add_lit,Nat.zero_add];exact hR j u hj) (fun u hu=>by obtain⟨q,hq,rfl⟩:=List.mem_map.1 hu;exact ques_one (hN q hq)) (by unfold maxLen;omega) (by omega) hb;have k92:K92 w w':=⟨g3.os,g3.tape,g3.output,g3.size,fun k hk hn=>g3.block k hk (fun e=>by
   obtain⟨hbk,-,cs,p,he⟩:=h.own e.symm;rcases hn with hn | hn
   · omega
   · exact hn cs p he)⟩
 refine⟨v',w',hr,⟨?_,?_⟩,Kept.of_grown g3 (fun k e _=>by rw [e];simp),k92⟩
 · rw [List.map_append,List.length_append];exact g2
 · intro q hq;rcases List.mem_append.1 hq with hq | hq
   · exact(h.2 q hq).mono92 k92
   · exact(hN q hq).mono92 k92
theorem app_nil (w:World) (ty:TypeId) (p n c:Nat) (hn:n≤c):(Builtin.append_ #[95,95] ty #[.slice (some ⟨p,0,none⟩) n c,.slice none 0 0]).run Tryz.prog w= .ok (.slice (some ⟨p,0,none⟩) n c) w:=by
 simp [Builtin.append_,go_sem];intro h;omega
theorem mm92 {w W W':World} {bs:List (Nat×Nat×List Value)} {X:List Nat} (h:Mm [] w W bs) (k:K92 W W') (hT:∀x∈bs,x.2.1≠92) (kx:Kept X W W') (hX:∀x∈X,w.heap.size≤x):Mm [] w W' bs:=
 ⟨h.kept.upNew kx hX,fun x hx=>(h.blk x hx).k92 k (hT x hx),h.own,h.nd⟩
theorem cg135 (vs:Array Value) (w:World):(callFunc 135 vs).run Tryz.prog w= .ok (.enter 135 vs) w:=by kernel_rfl
def QK (ao:Option Addr) (j:Job) (n ep:Int):List Value:= [.pointer ao,.int .i64 j.n,.int .i64 j.p,.int .i64 j.f,.int .i64 j.l,.int .i64 j.t,.int .i64 n,.int .i64 ep]
theorem row135:Row 135 8:=⟨_,Tryz.underlying135,rfl,by kernel_rfl⟩
theorem askC_one (ao:Option Addr) (j:Job) (n ep:Int):∀v∈QK ao j n ep,v.oneCell'=true:=by
 intro v hv;simp [QK] at hv;rcases hv with rfl | rfl | rfl | rfl | rfl | rfl | rfl | rfl <;> rfl
theorem ask_job {W:World} {b:Nat} {ao:Option Addr} {j:Job} {n ep:Int} (h:Blk W b 135 (QK ao j n ep)):W.rangeAt b 1 (Qf j):=h.rangeIn _ fun i hi=>by
 have h5:i<5:=hi
 match i,h5 with
 | 0,_=>rfl
 | 1,_=>rfl
 | 2,_=>rfl
 | 3,_=>rfl
 | 4,_=>rfl
section
variable {o:Oper} {a:Act} {w:World} {K:Act→World→Prop} {Q:Exit→Act→World→Prop}
theorem o_fld135_0 (x:Operand) (ho:o.op= .fieldAddr 135 x 0) (b:Nat) (hx:a.eval x=P0 b) (h:K (a.put o.dst (.pointer (some ⟨b,0,none⟩))) w):o.wp Tryz.prog a w K Q:=by
 unfold Oper.wp execOp;simp only [ho,hx];simp [go_sem,Addr.add_lit];exact h
theorem o_fld135_1 (x:Operand) (ho:o.op= .fieldAddr 135 x 1) (b:Nat) (hx:a.eval x=P0 b) (h:K (a.put o.dst (.pointer (some ⟨b,1,none⟩))) w):o.wp Tryz.prog a w K Q:=by
 unfold Oper.wp execOp;simp only [ho,hx];simp [go_sem,Addr.add_lit];exact h
theorem o_fld135_2 (x:Operand) (ho:o.op= .fieldAddr 135 x 2) (b:Nat) (hx:a.eval x=P0 b) (h:K (a.put o.dst (.pointer (some ⟨b,6,none⟩))) w):o.wp Tryz.prog a w K Q:=by
 unfold Oper.wp execOp;simp only [ho,hx];simp [go_sem,Addr.add_lit];exact h
theorem o_fld135_3 (x:Operand) (ho:o.op= .fieldAddr 135 x 3) (b:Nat) (hx:a.eval x=P0 b) (h:K (a.put o.dst (.pointer (some ⟨b,7,none⟩))) w):o.wp Tryz.prog a w K Q:=by
 unfold Oper.wp execOp;simp only [ho,hx];simp [go_sem,Addr.add_lit];exact h
theorem bs95_1 (w:World) (f:FuncId) (cs:Array Value):(Instr.buildSlice 95 1 #[(0,fnV f cs)]).run Tryz.prog w= .ok (.slice (some ⟨w.heap.size,0,none⟩) 1 1) (w.alloc (.cells [fnV f cs].toArray 92)):=by kernel_rfl
theorem o_bs1 (x:Operand) (ho:o.op= .buildSlice 95 1 #[(0,x)]) (u:Value) (hx:a.eval x=u) {xu:Int} {w1:World} (qu:ZP w1 u xu) (h:K (a.put o.dst (.slice (some ⟨w.heap.size,0,none⟩) 1 1)) (w.alloc (.cells [u].toArray 92))):o.wp Tryz.prog a w K Q:=by
 obtain⟨f,cs,rfl,-⟩:=qu;unfold Oper.wp execOp;simp only [ho,List.map_toArray,List.map_cons,List.map_nil,hx,Sem.run_bind,bs95_1,Result.andThen_ok];exact h
theorem o_app (x y:Operand) (ho:o.op= .call { callee:= .builtin .append,args:= #[x,y],argTypes:= #[95,95] }) (u v r:Value) (w':World) (hx:a.eval x=u) (hy:a.eval y=v) (hr:(Builtin.append_ #[95,95] o.type #[u,v]).run Tryz.prog w= .ok r w') (h:K (a.put o.dst r) w'):o.wp Tryz.prog a w K Q:=by
 unfold Oper.wp execOp;simp only [ho,resolve,invoke,builtin,Sem.run_bind,Sem.run_pure,Result.andThen_ok,List.map_toArray,List.map_cons,List.map_nil,hx,hy,hr];exact h
end
@[reducible] def SR (w:World) (bs:List (Nat×Nat×List Value)) (sl az:Nat) (qs:List (Nat×Int)) (d:Nat→Bool) (vs:Nat→Value) (W:World):Prop:=
 Mm [] w W bs∧(∀q∈qs,d q.1=true→ZP W (vs q.1) q.2)∧(d sl=true→Qr W w.heap.size (vs sl) (qs.map fun q=>(vs q.1,q.2)))∧(d az=true→d sl=true∧vs az=vs sl)
section
variable {w:World} {bs:List (Nat×Nat×List Value)} {sl az:Nat} {qs:List (Nat×Int)} {d:Nat→Bool} {vs:Nat→Value} {W W':World}
theorem SR.loc:∀d d' vs vs' W,(∀i∈az::sl::qs.map Prod.fst,d i=d' i∧vs i=vs' i)→SR w bs sl az qs d vs W→SR w bs sl az qs d' vs' W:=by
 intro d d' vs vs' W H h;have ek:=H az (by simp);have es:=H sl (by simp);have eq:∀q∈qs,d q.1=d' q.1∧vs q.1=vs' q.1:=fun q hq=>H q.1 (by simp;exact .inr (.inr ⟨q.2,hq⟩));have em:(qs.map fun q=>(vs q.1,q.2))=qs.map fun q=>(vs' q.1,q.2):=List.map_congr_left fun q hq=>by rw [(eq q hq).2]
 unfold SR at h⊢;rw [← ek.1,← ek.2,← es.1,← es.2,← em];refine⟨h.1,fun q hq hd=> ?_,h.2.2⟩;rw [← (eq q hq).2];exact h.2.1 q hq (by rw [(eq q hq).1];exact hd)
theorem SR.ask (h:SR w bs sl az qs d vs W) (hs:d sl=false) (hk:Kept [] W W') {i:Nat} {v:Value} {x:Int} (hq:ZP W' v x) (hia:az≠i) (his:sl≠i) (ha:d az=false) (hx:∀q∈qs,q.1=i→q.2=x):
   SR w bs sl az qs (fun j=>if j=i then true else d j) (fun j=>if j=i then v else vs j) W':=by
 obtain⟨h1,h2,-,-⟩:=h;refine⟨h1.step hk,fun q hq' hdq=> ?_,fun h9=> ?_,fun h9=> ?_⟩
 · dsimp only at*;by_cases e:q.1=i
   · rw [if_pos e,hx q hq' e];exact hq
   · rw [if_neg e] at hdq⊢;exact(h2 q hq' hdq).mono hk
 · dsimp only at*;rw [if_neg his,hs] at h9;cases h9
 · dsimp only at*;rw [if_neg hia,ha] at h9;cases h9
theorem SR.row (h:SR w bs sl az qs d vs W) (ha:d az=false) (hd:∀q∈qs,d q.1=true) (has:az≠sl) (hq:∀q∈qs,q.1≠sl) (hn:qs.length≤100):
   SR w bs sl az qs (fun j=>if j=sl then true else d j) (fun j=>if j=sl then .slice (some ⟨W.heap.size,0,none⟩) qs.length qs.length else vs j) (W.alloc (.cells (qs.map fun q=>vs q.1).toArray 92)):=by
 obtain⟨h1,h2,-,-⟩:=h;have hk:Kept [] W (W.alloc (.cells (qs.map fun q=>vs q.1).toArray 92)):=(Kept.refl _ _).alloc _;have em:(qs.map fun q=>((if q.1=sl then Value.slice (some ⟨W.heap.size,0,none⟩) qs.length qs.length else vs q.1),q.2))=qs.map fun q=>(vs q.1,q.2):=List.map_congr_left fun q hq'=>by rw [if_neg (hq q hq')]
 refine⟨h1.step hk,fun q hq' hdq=> ?_,fun _=> ?_,fun h9=> ?_⟩
 · dsimp only at*;rw [if_neg (hq q hq')] at hdq⊢;exact(h2 q hq' hdq).mono hk
 · dsimp only at*;rw [em,if_pos rfl];refine⟨⟨by simp,.inr ⟨W.heap.size,qs.length,_,?_,h1.kept.size,Blk.new W 92 _,?_,?_,?_,?_⟩⟩,?_⟩
   · rw [List.length_map]
   · simp
   · unfold maxLen;omega
   · simp
   · rw [List.map_map,List.length_map,Nat.mul_one,List.take_of_length_le (by simp)];rfl
   · intro q hq';obtain⟨q',h9,rfl⟩:=List.mem_map.1 hq';exact(h2 q' h9 (hd q' h9)).mono hk
 · dsimp only at*;rw [if_neg has,ha] at h9;cases h9
theorem SR.asg (h:SR w bs sl az qs d vs W) (hs:d sl=true) (has:sl≠az) (hq:∀q∈qs,q.1≠az):
   SR w bs sl az qs (fun j=>if j=az then true else d j) (fun j=>if j=az then vs sl else vs j) W:=by
 obtain⟨h1,h2,h3,-⟩:=h;have em:(qs.map fun q=>((if q.1=az then vs sl else vs q.1),q.2))=qs.map fun q=>(vs q.1,q.2):=List.map_congr_left fun q hq'=>by rw [if_neg (hq q hq')]
 refine⟨h1,fun q hq' hdq=> ?_,fun h9=> ?_,fun _=> ?_⟩
 · dsimp only at*;rw [if_neg (hq q hq')] at hdq⊢;exact h2 q hq' hdq
 · dsimp only at*;rw [em,if_neg has];exact h3 hs
 · dsimp only;rw [if_neg has,if_neg has,if_pos rfl];exact⟨hs,rfl⟩
end
@[reducible] def SA (w:World) (bs:List (Nat×Nat×List Value)) (u:Value) (L0 N:List (Value×Int)) (x:Int) (z:Nat) (d:Nat→Bool) (vs:Nat→Value) (W:World):Prop:=
 (Mm [] w W bs∧z≤W.heap.size)∧(d 2=false→Qr W w.heap.size u L0)∧(d 2=true→d 11=false→Qr W w.heap.size (vs 2) (L0++N))∧(d 9=true→ZP W (vs 9) x)∧(d 11=false→d 10=true→d 9=true∧∃g,vs 10= .slice (some ⟨g,0,none⟩) 1 1∧Blk W g 92 [vs 9]∧some g≠u.ownBlock)∧(d 11=true→∃q,Qr W w.heap.size (vs 11) (L0++N++ [(q,x)]))∧(d 12=true→d 11=true∧vs 12=vs 11)
theorem SA.loc {w:World} {bs:List (Nat×Nat×List Value)} {u:Value} {L0 N:List (Value×Int)} {x:Int} {z:Nat} :∀d d' vs vs' W,(∀i∈ [2,9,10,11,12],d i=d' i∧vs i=vs' i)→SA w bs u L0 N x z d vs W→SA w bs u L0 N x z d' vs' W:=by
 intro d d' vs vs' W H h;have e2:=H 2 (by simp);have e9:=H 9 (by simp);have e10:=H 10 (by simp);have e11:=H 11 (by simp);have e12:=H 12 (by simp);unfold SA at h⊢;rw [← e2.1,← e2.2,← e9.1,← e9.2,← e10.1,← e10.2,← e11.1,← e11.2,← e12.1,← e12.2];exact h
theorem may75 (ao:Option Addr) (o:Option Dv.Dev) (j:Job) (n ep:Int) (N:List (Value×Int)) (mo:Value) (w:World) (hw0:0<w.heap.size) (h:Dq w (.pointer ao) o) (hN:(mo= .slice none 0 0∧N= [])∨∃bm c,mo= .slice (some ⟨bm,0,none⟩) N.length c∧Rg w bm (N.map Prod.fst)∧∀q∈N,ZP w q.1 q.2) (hNl:N.length≤100):
   Calls Tryz.prog 75 #[Qd (QK ao j n ep),mo] w fun e w'=>∃v L,e= .returned v∧Qr w' w.heap.size v L∧L.map Prod.snd= [qa (decide (0<Qs o)) 1,qa (Qu o j) 2,qa (Qt j n) 2,qa (Qx o n ep) 2]++N.map Prod.snd++ [qa (!QF o n ep) 8]∧Kept [] w w':=by
 have HD:=hide h;have HW0:=hide hw0;have HN:=hide hN;have HNL:=hide hNl;have hsl:∃mao mn mc,mo= .slice mao mn mc:=by
   rcases hN with ⟨rfl,-⟩ | ⟨bm,c,rfl,-⟩
   · exact⟨_,_,_,rfl⟩
   · exact⟨_,_,_,rfl⟩
 obtain⟨mao,mn,mc,rfl⟩:=hsl;clear h hN hNl hw0;have M:Hid (Mm [] w w []):=hide Mm.init;go_enter Tryz.func75,Tryz.ntmps75
 go_wp2_with (first |(refine Qp rfl (.tmp 0) rfl (QK ao j n ep) rfl ?_;intro W1 b1 e1 B1 K1;replace M:=hide ((Qa M).new e1 B1 K1);clear e1 B1 K1;refine Stp.go ?_))
 constructor
 go_wp2_with fail
 refine wp_region_any mixed (QL 22 rfl (by kernel_rfl) [some (.pointer (some ⟨b1,0,none⟩)),some (.pointer ao),none,some (.pointer (some ⟨b1,0,none⟩)),some (.pointer ao),some (.pointer (some ⟨b1,1,none⟩)),some (Qd (Qf j)),none,some (.pointer (some ⟨b1,1,none⟩)),some (Qd (Qf j)),some (.pointer (some ⟨b1,6,none⟩)),some (.int .i64 n),none,some (.pointer (some ⟨b1,0,none⟩)),some (.pointer ao),some (.pointer (some ⟨b1,6,none⟩)),some (.int .i64 n),some (.pointer (some ⟨b1,7,none⟩)),some (.int .i64 ep),none,none,none] rfl (by kernel_rfl) (fun l vs W=>(SR w [(b1,135,QK ao j n ep)] 20 21 [(2,qa (decide (0<Qs o)) 1),(7,qa (Qu o j) 2),(12,qa (Qt j n) 2),(19,qa (Qx o n ep) 2)]) (fun i=>l.getD i false) vs W) (⟨(Qa M).drew,(by simp),(fun h=>by cases h),(fun h=>by cases h)⟩) ?_ ?_)
 · intro ix o' hi ho a' w2 l vs hls hlf hJ hout hin hdep hnot
   match ix,ho with
   | 0,ho=>
     obtain rfl:=Oj9 ho;have e0:=hout 2 (by kernel_rfl);replace e0:a'.eval (.tmp 2)=_:=e0.trans rfl;exact o_fld135_0 (.tmp 2) rfl b1 e0 ⟨_,rfl,Qe rfl,Le.Qj [21,20,2,7,12,19] (SR.loc (qs:= [(2,qa (decide (0<Qs o)) 1),(7,qa (Qu o j) 2),(12,qa (Qt j n) 2),(19,qa (Qx o n ep) 2)])) (by omega) (by decide) hJ⟩
   | 1,ho=>
     obtain rfl:=Oj9 ho;have e0:a'.eval (.tmp 6)= .pointer (some ⟨b1,0,none⟩):=by have h9:=hin 0 6 (by kernel_rfl) (by kernel_rfl);exact h9.1.trans (Qc _ h9.2 rfl)
     exact Zz (.tmp 6) rfl _ _ e0 (Qb (hJ.1.at 0 _ rfl) 0 _ rfl) ⟨_,rfl,Qe rfl,Le.Qj [21,20,2,7,12,19] (SR.loc (qs:= [(2,qa (decide (0<Qs o)) 1),(7,qa (Qu o j) 2),(12,qa (Qt j n) 2),(19,qa (Qx o n ep) 2)])) (by omega) (by decide) hJ⟩
   | 2,ho=>
     obtain rfl:=Oj9 ho;have e0:a'.eval (.tmp 7)= .pointer ao:=by have h9:=hin 1 7 (by kernel_rfl) (by kernel_rfl);exact h9.1.trans (Qc _ h9.2 rfl)
     refine Qq 44 _ _ rfl #[.pointer ao] (by simp [e0]) (cg44 _ _) ((there44 (.pointer ao) o w2 ((Qa HD).kept hJ.1.kept)).mono ?_);rintro e w3 ⟨q,rfl,hq1,hk3⟩;exact⟨_,rfl,_,rfl,QA rfl,Le.QJ (by omega) (SR.ask hJ (hnot 20 (by kernel_rfl)) hk3 hq1 (by decide) (by decide) (hnot 21 (by kernel_rfl)) (by simp))⟩
   | 3,ho=>
     obtain rfl:=Oj9 ho;have e0:=hout 2 (by kernel_rfl);replace e0:a'.eval (.tmp 2)=_:=e0.trans rfl;exact o_fld135_0 (.tmp 2) rfl b1 e0 ⟨_,rfl,Qe rfl,Le.Qj [21,20,2,7,12,19] (SR.loc (qs:= [(2,qa (decide (0<Qs o)) 1),(7,qa (Qu o j) 2),(12,qa (Qt j n) 2),(19,qa (Qx o n ep) 2)])) (by omega) (by decide) hJ⟩
   | 4,ho=>
     obtain rfl:=Oj9 ho;have e0:a'.eval (.tmp 9)= .pointer (some ⟨b1,0,none⟩):=by have h9:=hin 3 9 (by kernel_rfl) (by kernel_rfl);exact h9.1.trans (Qc _ h9.2 rfl)
     exact Zz (.tmp 9) rfl _ _ e0 (Qb (hJ.1.at 0 _ rfl) 0 _ rfl) ⟨_,rfl,Qe rfl,Le.Qj [21,20,2,7,12,19] (SR.loc (qs:= [(2,qa (decide (0<Qs o)) 1),(7,qa (Qu o j) 2),(12,qa (Qt j n) 2),(19,qa (Qx o n ep) 2)])) (by omega) (by decide) hJ⟩
   | 5,ho=>
     obtain rfl:=Oj9 ho;have e0:=hout 2 (by kernel_rfl);replace e0:a'.eval (.tmp 2)=_:=e0.trans rfl;exact o_fld135_1 (.tmp 2) rfl b1 e0 ⟨_,rfl,Qe rfl,Le.Qj [21,20,2,7,12,19] (SR.loc (qs:= [(2,qa (decide (0<Qs o)) 1),(7,qa (Qu o j) 2),(12,qa (Qt j n) 2),(19,qa (Qx o n ep) 2)])) (by omega) (by decide) hJ⟩
   | 6,ho=>
     obtain rfl:=Oj9 ho;have e0:a'.eval (.tmp 11)= .pointer (some ⟨b1,1,none⟩):=by have h9:=hin 5 11 (by kernel_rfl) (by kernel_rfl);exact h9.1.trans (Qc _ h9.2 rfl)
     exact Qw Zv (.tmp 11) rfl b1 1 e0 (Qf j) rfl (ask_job (hJ.1.at 0 _ rfl)) ⟨_,rfl,Qe rfl,Le.Qj [21,20,2,7,12,19] (SR.loc (qs:= [(2,qa (decide (0<Qs o)) 1),(7,qa (Qu o j) 2),(12,qa (Qt j n) 2),(19,qa (Qx o n ep) 2)])) (by omega) (by decide) hJ⟩
   | 7,ho=>
     obtain rfl:=Oj9 ho;have e0:a'.eval (.tmp 10)= .pointer ao:=by have h9:=hin 4 10 (by kernel_rfl) (by kernel_rfl);exact h9.1.trans (Qc _ h9.2 rfl)
     have e1:a'.eval (.tmp 12)=Qd (Qf j):=by have h9:=hin 6 12 (by kernel_rfl) (by kernel_rfl);exact h9.1.trans (Qc _ h9.2 rfl)
     refine Qq 45 _ _ rfl #[.pointer ao,Qd (Qf j)] (by simp [e0,e1]) (cg45 _ _) ((fits45 (.pointer ao) o j w2 ((Qa HD).kept hJ.1.kept)).mono ?_);rintro e w3 ⟨q,rfl,hq1,hk3⟩;exact⟨_,rfl,_,rfl,QA rfl,Le.QJ (by omega) (SR.ask hJ (hnot 20 (by kernel_rfl)) hk3 hq1 (by decide) (by decide) (hnot 21 (by kernel_rfl)) (by simp))⟩
   | 8,ho=>
     obtain rfl:=Oj9 ho;have e0:=hout 2 (by kernel_rfl);replace e0:a'.eval (.tmp 2)=_:=e0.trans rfl;exact o_fld135_1 (.tmp 2) rfl b1 e0 ⟨_,rfl,Qe rfl,Le.Qj [21,20,2,7,12,19] (SR.loc (qs:= [(2,qa (decide (0<Qs o)) 1),(7,qa (Qu o j) 2),(12,qa (Qt j n) 2),(19,qa (Qx o n ep) 2)])) (by omega) (by decide) hJ⟩
   | 9,ho=>
     obtain rfl:=Oj9 ho;have e0:a'.eval (.tmp 14)= .pointer (some ⟨b1,1,none⟩):=by have h9:=hin 8 14 (by kernel_rfl) (by kernel_rfl);exact h9.1.trans (Qc _ h9.2 rfl)
     exact Qw Zv (.tmp 14) rfl b1 1 e0 (Qf j) rfl (ask_job (hJ.1.at 0 _ rfl)) ⟨_,rfl,Qe rfl,Le.Qj [21,20,2,7,12,19] (SR.loc (qs:= [(2,qa (decide (0<Qs o)) 1),(7,qa (Qu o j) 2),(12,qa (Qt j n) 2),(19,qa (Qx o n ep) 2)])) (by omega) (by decide) hJ⟩
   | 10,ho=>
     obtain rfl:=Oj9 ho;have e0:=hout 2 (by kernel_rfl);replace e0:a'.eval (.tmp 2)=_:=e0.trans rfl;exact o_fld135_2 (.tmp 2) rfl b1 e0 ⟨_,rfl,Qe rfl,Le.Qj [21,20,2,7,12,19] (SR.loc (qs:= [(2,qa (decide (0<Qs o)) 1),(7,qa (Qu o j) 2),(12,qa (Qt j n) 2),(19,qa (Qx o n ep) 2)])) (by omega) (by decide) hJ⟩
   | 11,ho=>
     obtain rfl:=Oj9 ho;have e0:a'.eval (.tmp 16)= .pointer (some ⟨b1,6,none⟩):=by have h9:=hin 10 16 (by kernel_rfl) (by kernel_rfl);exact h9.1.trans (Qc _ h9.2 rfl)
     exact Ar.Zx (.tmp 16) rfl _ _ e0 (Qb (hJ.1.at 0 _ rfl) 6 _ rfl) ⟨_,rfl,Qe rfl,Le.Qj [21,20,2,7,12,19] (SR.loc (qs:= [(2,qa (decide (0<Qs o)) 1),(7,qa (Qu o j) 2),(12,qa (Qt j n) 2),(19,qa (Qx o n ep) 2)])) (by omega) (by decide) hJ⟩
   | 12,ho=>
     obtain rfl:=Oj9 ho;have e0:a'.eval (.tmp 15)=Qd (Qf j):=by have h9:=hin 9 15 (by kernel_rfl) (by kernel_rfl);exact h9.1.trans (Qc _ h9.2 rfl)
     have e1:a'.eval (.tmp 17)= .int .i64 n:=by have h9:=hin 11 17 (by kernel_rfl) (by kernel_rfl);exact h9.1.trans (Qc _ h9.2 rfl)
     refine Qq 64 _ _ rfl #[Qd (Qf j),.int .i64 n] (by simp [e0,e1]) (cg64 _ _) ((node64 j n w2).mono ?_);rintro e w3 ⟨q,rfl,hq1,hk3⟩;exact⟨_,rfl,_,rfl,QA rfl,Le.QJ (by omega) (SR.ask hJ (hnot 20 (by kernel_rfl)) hk3 hq1 (by decide) (by decide) (hnot 21 (by kernel_rfl)) (by simp))⟩
   | 13,ho=>
     obtain rfl:=Oj9 ho;have e0:=hout 2 (by kernel_rfl);replace e0:a'.eval (.tmp 2)=_:=e0.trans rfl;exact o_fld135_0 (.tmp 2) rfl b1 e0 ⟨_,rfl,Qe rfl,Le.Qj [21,20,2,7,12,19] (SR.loc (qs:= [(2,qa (decide (0<Qs o)) 1),(7,qa (Qu o j) 2),(12,qa (Qt j n) 2),(19,qa (Qx o n ep) 2)])) (by omega) (by decide) hJ⟩
   | 14,ho=>
     obtain rfl:=Oj9 ho;have e0:a'.eval (.tmp 19)= .pointer (some ⟨b1,0,none⟩):=by have h9:=hin 13 19 (by kernel_rfl) (by kernel_rfl);exact h9.1.trans (Qc _ h9.2 rfl)
     exact Zz (.tmp 19) rfl _ _ e0 (Qb (hJ.1.at 0 _ rfl) 0 _ rfl) ⟨_,rfl,Qe rfl,Le.Qj [21,20,2,7,12,19] (SR.loc (qs:= [(2,qa (decide (0<Qs o)) 1),(7,qa (Qu o j) 2),(12,qa (Qt j n) 2),(19,qa (Qx o n ep) 2)])) (by omega) (by decide) hJ⟩
   | 15,ho=>
     obtain rfl:=Oj9 ho;have e0:=hout 2 (by kernel_rfl);replace e0:a'.eval (.tmp 2)=_:=e0.trans rfl;exact o_fld135_2 (.tmp 2) rfl b1 e0 ⟨_,rfl,Qe rfl,Le.Qj [21,20,2,7,12,19] (SR.loc (qs:= [(2,qa (decide (0<Qs o)) 1),(7,qa (Qu o j) 2),(12,qa (Qt j n) 2),(19,qa (Qx o n ep) 2)])) (by omega) (by decide) hJ⟩
   | 16,ho=>
     obtain rfl:=Oj9 ho;have e0:a'.eval (.tmp 21)= .pointer (some ⟨b1,6,none⟩):=by have h9:=hin 15 21 (by kernel_rfl) (by kernel_rfl);exact h9.1.trans (Qc _ h9.2 rfl)
     exact Ar.Zx (.tmp 21) rfl _ _ e0 (Qb (hJ.1.at 0 _ rfl) 6 _ rfl) ⟨_,rfl,Qe rfl,Le.Qj [21,20,2,7,12,19] (SR.loc (qs:= [(2,qa (decide (0<Qs o)) 1),(7,qa (Qu o j) 2),(12,qa (Qt j n) 2),(19,qa (Qx o n ep) 2)])) (by omega) (by decide) hJ⟩
   | 17,ho=>
     obtain rfl:=Oj9 ho;have e0:=hout 2 (by kernel_rfl);replace e0:a'.eval (.tmp 2)=_:=e0.trans rfl;exact o_fld135_3 (.tmp 2) rfl b1 e0 ⟨_,rfl,Qe rfl,Le.Qj [21,20,2,7,12,19] (SR.loc (qs:= [(2,qa (decide (0<Qs o)) 1),(7,qa (Qu o j) 2),(12,qa (Qt j n) 2),(19,qa (Qx o n ep) 2)])) (by omega) (by decide) hJ⟩
   | 18,ho=>
     obtain rfl:=Oj9 ho;have e0:a'.eval (.tmp 23)= .pointer (some ⟨b1,7,none⟩):=by have h9:=hin 17 23 (by kernel_rfl) (by kernel_rfl);exact h9.1.trans (Qc _ h9.2 rfl)
     exact Za (.tmp 23) rfl _ _ e0 (Qb (hJ.1.at 0 _ rfl) 7 _ rfl) ⟨_,rfl,Qe rfl,Le.Qj [21,20,2,7,12,19] (SR.loc (qs:= [(2,qa (decide (0<Qs o)) 1),(7,qa (Qu o j) 2),(12,qa (Qt j n) 2),(19,qa (Qx o n ep) 2)])) (by omega) (by decide) hJ⟩
   | 19,ho=>
     obtain rfl:=Oj9 ho;have e0:a'.eval (.tmp 20)= .pointer ao:=by have h9:=hin 14 20 (by kernel_rfl) (by kernel_rfl);exact h9.1.trans (Qc _ h9.2 rfl)
     have e1:a'.eval (.tmp 22)= .int .i64 n:=by have h9:=hin 16 22 (by kernel_rfl) (by kernel_rfl);exact h9.1.trans (Qc _ h9.2 rfl)
     have e2:a'.eval (.tmp 24)= .int .i64 ep:=by have h9:=hin 18 24 (by kernel_rfl) (by kernel_rfl);exact h9.1.trans (Qc _ h9.2 rfl)
     refine Qq 68 _ _ rfl #[.pointer ao,.int .i64 n,.int .i64 ep] (by simp [e0,e1,e2]) (cg68 _ _) ((epoch68 (.pointer ao) o n ep w2 ((Qa HD).kept hJ.1.kept)).mono ?_);rintro e w3 ⟨q,rfl,hq1,hk3⟩;exact⟨_,rfl,_,rfl,QA rfl,Le.QJ (by omega) (SR.ask hJ (hnot 20 (by kernel_rfl)) hk3 hq1 (by decide) (by decide) (hnot 21 (by kernel_rfl)) (by simp))⟩
   | 20,ho=>
     obtain rfl:=Oj9 ho;have e0:a'.eval (.tmp 8)=vs 2:=(hin 2 8 (by kernel_rfl) (by kernel_rfl)).1;have e1:a'.eval (.tmp 13)=vs 7:=(hin 7 13 (by kernel_rfl) (by kernel_rfl)).1;have e2:a'.eval (.tmp 18)=vs 12:=(hin 12 18 (by kernel_rfl) (by kernel_rfl)).1;have e3:a'.eval (.tmp 25)=vs 19:=(hin 19 25 (by kernel_rfl) (by kernel_rfl)).1;have hQ:=hJ.2.1;have h1:=hdep 2 (by kernel_rfl);have h2:=hdep 7 (by kernel_rfl);have h3:=hdep 12 (by kernel_rfl);have h4:=hdep 19 (by kernel_rfl);exact o_bs4 (.tmp 8) (.tmp 13) (.tmp 18) (.tmp 25) rfl _ _ _ _ e0 e1 e2 e3 (hQ (2,qa (decide (0<Qs o)) 1) (by simp) h1) (hQ (7,qa (Qu o j) 2) (by simp) h2) (hQ (12,qa (Qt j n) 2) (by simp) h3) (hQ (19,qa (Qx o n ep) 2) (by simp) h4) ⟨_,rfl,QA rfl,Le.QJ (by omega) (SR.row hJ (hnot 21 (by kernel_rfl)) (by intro q hq;simp at hq;rcases hq with rfl | rfl | rfl | rfl;exact h1;exact h2;exact h3;exact h4) (by decide) (by simp) (by simp))⟩
   | 21,ho=>
     obtain rfl:=Oj9 ho;have e0:a'.eval (.tmp 26)=vs 20:=(hin 20 26 (by kernel_rfl) (by kernel_rfl)).1;exact QI (.tmp 26) rfl _ e0 ⟨_,rfl,QA rfl,Le.QJ (by omega) (SR.asg hJ (hdep 20 (by kernel_rfl)) (by decide) (by simp))⟩
 intro l_ vs4 V4 hl hJ htold;have t0:vs4 0= .pointer (some ⟨b1,0,none⟩):=Qc _ (htold 0 (by decide)) rfl;have t1:vs4 1= .pointer ao:=Qc _ (htold 1 (by decide)) rfl;have t3:vs4 3= .pointer (some ⟨b1,0,none⟩):=Qc _ (htold 3 (by decide)) rfl;have t4:vs4 4= .pointer ao:=Qc _ (htold 4 (by decide)) rfl;have t5:vs4 5= .pointer (some ⟨b1,1,none⟩):=Qc _ (htold 5 (by decide)) rfl;have t6:vs4 6=Qd (Qf j):=Qc _ (htold 6 (by decide)) rfl;have t8:vs4 8= .pointer (some ⟨b1,1,none⟩):=Qc _ (htold 8 (by decide)) rfl;have t9:vs4 9=Qd (Qf j):=Qc _ (htold 9 (by decide)) rfl;have t10:vs4 10= .pointer (some ⟨b1,6,none⟩):=Qc _ (htold 10 (by decide)) rfl;have t11:vs4 11= .int .i64 n:=Qc _ (htold 11 (by decide)) rfl;have t13:vs4 13= .pointer (some ⟨b1,0,none⟩):=Qc _ (htold 13 (by decide)) rfl;have t14:vs4 14= .pointer ao:=Qc _ (htold 14 (by decide)) rfl;have t15:vs4 15= .pointer (some ⟨b1,6,none⟩):=Qc _ (htold 15 (by decide)) rfl;have t16:vs4 16= .int .i64 n:=Qc _ (htold 16 (by decide)) rfl;have t17:vs4 17= .pointer (some ⟨b1,7,none⟩):=Qc _ (htold 17 (by decide)) rfl;have t18:vs4 18= .int .i64 ep:=Qc _ (htold 18 (by decide)) rfl;rw [show (List.range 22).map vs4= [vs4 0,vs4 1,vs4 2,vs4 3,vs4 4,vs4 5,vs4 6,vs4 7,vs4 8,vs4 9,vs4 10,vs4 11,vs4 12,vs4 13,vs4 14,vs4 15,vs4 16,vs4 17,vs4 18,vs4 19,vs4 20,vs4 21] from rfl];simp only [t0,t1,t3,t4,t5,t6,t8,t9,t10,t11,t13,t14,t15,t16,t17,t18,Qz,Act.put,List.setIfInBounds_toArray,List.set_cons_succ,List.set_cons_zero];clear t0 t1 t3 t4 t5 t6 t8 t9 t10 t11 t13 t14 t15 t16 t17 t18 htold;have hR:=hJ.2.2.1 (hl 20 (by decide));have hE:=(hJ.2.2.2 (hl 21 (by decide))).2;have HM:=hide hJ.1;rw [hE];obtain⟨u,hu⟩:∃u,vs4 20=u:=⟨_,rfl⟩;obtain⟨L0,hL0⟩:∃L0:List (Value×Int),L0= [(vs4 2,qa (decide (0<Qs o)) 1),(vs4 7,qa (Qu o j) 2),(vs4 12,qa (Qt j n) 2),(vs4 19,qa (Qx o n ep) 2)]:=⟨_,rfl⟩;have hR2:Qr V4 w.heap.size u L0:=by rw [hL0,← hu];exact hR
 have hs0:L0.map Prod.snd= [qa (decide (0<Qs o)) 1,qa (Qu o j) 2,qa (Qt j n) 2,qa (Qx o n ep) 2]:=by rw [hL0];rfl
 have hlen:L0.length=4:=by rw [hL0];rfl
 obtain⟨up,uc,hup,hub,hul,huc,-⟩:=hR2.at (by omega);have HUC:Hid (L0.length≤uc):=huc;have HUL:Hid (up<V4.heap.size):=hul;have HUB:Hid (u.ownBlock=some up):=by show _=_;rw [hup];rfl
 rw [hu];generalize vs4 2=c2;generalize vs4 7=c7;generalize vs4 12=c12;generalize vs4 19=c19;have HR:=hide hR2;have HS0:=hide hs0;have HUP:=hide hup;have HLN:=hide hlen;clear hJ hl hE hR hR2 hu hL0 hs0 hub hul huc hup hlen M;go_wp2_with fail
 refine wp_region_any mixed (QL 13 rfl (by kernel_rfl) [some (u),some (.slice mao mn mc),none,some (.pointer (some ⟨b1,0,none⟩)),some (.pointer ao),some (.pointer (some ⟨b1,6,none⟩)),some (.int .i64 n),some (.pointer (some ⟨b1,7,none⟩)),some (.int .i64 ep),none,none,none,none] rfl (by kernel_rfl) (fun l vs W=>(SA w [(b1,135,QK ao j n ep)] u L0 N (qa (!QF o n ep) 8) V4.heap.size) (fun i=>l.getD i false) vs W) (⟨⟨(Qa HM).drew,Nat.le_refl _⟩,(fun _=>(Qa HR).k (Kept.refl _ _).drew),(fun h=>by cases h),(fun h=>by cases h),(fun _ h=>by cases h),(fun h=>by cases h),(fun h=>by cases h)⟩) ?_ ?_)
 · intro ix o' hi ho a' w2 l vs hls hlf hJ hout hin hdep hnot
   match ix,ho with
   | 0,ho=>
     obtain rfl:=Oj9 ho;have e0:=hout 5 (by kernel_rfl);replace e0:a'.eval (.tmp 5)=_:=e0.trans rfl;exact wp_move (.tmp 5) rfl _ e0 ⟨_,rfl,Qe rfl,Le.Qj [2,9,10,11,12] SA.loc (by omega) (by decide) hJ⟩
   | 1,ho=>
     obtain rfl:=Oj9 ho;have e0:=hout 1 (by kernel_rfl);replace e0:a'.eval (.tmp 1)=_:=e0.trans rfl;exact wp_move (.tmp 1) rfl _ e0 ⟨_,rfl,Qe rfl,Le.Qj [2,9,10,11,12] SA.loc (by omega) (by decide) hJ⟩
   | 2,ho=>
     obtain rfl:=Oj9 ho;have e0:a'.eval (.tmp 27)=u:=by have h9:=hin 0 27 (by kernel_rfl) (by kernel_rfl);exact h9.1.trans (Qc _ h9.2 rfl)
     have e1:a'.eval (.tmp 28)= .slice mao mn mc:=by have h9:=hin 1 28 (by kernel_rfl) (by kernel_rfl);exact h9.1.trans (Qc _ h9.2 rfl)
     obtain⟨⟨hM,hz⟩,h2,-,h9,h10,-,-⟩:=hJ;have hQ:=h2 hlf;have hn11:l.getD 11 false=false:=hnot 11 (by kernel_rfl);have hn12:l.getD 12 false=false:=hnot 12 (by kernel_rfl);rcases Qa HN with ⟨hm,hN0⟩ | ⟨bm,c,hm,hRm,hQm⟩
     · rw [hm] at e1;rw [Qa HUP] at e0;refine o_app (.tmp 27) (.tmp 28) rfl _ _ _ w2 e0 e1 (app_nil w2 _ _ _ _ (Qa HUC)) ⟨_,rfl,QA rfl,Le.QJ (by omega) ⟨⟨hM,hz⟩,(fun h=>by cases h),(fun _ _=> ?_),h9,h10,(fun h=>by have h:l.getD 11 false=true:=h;rw [hn11] at h;cases h),(fun h=>by have h:l.getD 12 false=true:=h;rw [hn12] at h;cases h)⟩⟩;rw [hN0,List.append_nil];have hQ2:=hQ;rw [Qa HUP] at hQ2;exact hQ2
     · rw [hm] at e1;obtain⟨v',w',hr,hq',hk',k92⟩:=run_app95 w2 _ u w.heap.size L0 N hQ hM.kept.size (Qa HW0) bm c (hRm.kept hM.kept (by simp)) (fun q hq=>(hQm q hq).mono hM.kept) (by have:=Qa HLN;have:=Qa HNL;omega);have hX:∀x∈u.ownBlock.toList,w.heap.size≤x:=fun x hx=>by rw [Option.mem_toList] at hx;exact(hQ.own hx).1
       refine o_app (.tmp 27) (.tmp 28) rfl _ _ _ w' e0 e1 hr ⟨_,rfl,QA rfl,Le.QJ (by omega) ⟨⟨mm92 hM k92 (by simp) hk' hX,Nat.le_trans hz hk'.size⟩,(fun h=>by cases h),(fun _ _=>hq'),(fun h=>(h9 h).mono92 k92),(fun _ h=> ?_),(fun h=>by have h:l.getD 11 false=true:=h;rw [hn11] at h;cases h),(fun h=>by have h:l.getD 12 false=true:=h;rw [hn12] at h;cases h)⟩⟩;obtain⟨a9,g,hg,hb,hne⟩:=h10 hn11 h;exact⟨a9,g,hg,hb.kept hk' (fun hx=>hne (Option.mem_toList.1 hx).symm),hne⟩
   | 3,ho=>
     obtain rfl:=Oj9 ho;have e0:=hout 2 (by kernel_rfl);replace e0:a'.eval (.tmp 2)=_:=e0.trans rfl;exact o_fld135_0 (.tmp 2) rfl b1 e0 ⟨_,rfl,Qe rfl,Le.Qj [2,9,10,11,12] SA.loc (by omega) (by decide) hJ⟩
   | 4,ho=>
     obtain rfl:=Oj9 ho;have e0:a'.eval (.tmp 30)= .pointer (some ⟨b1,0,none⟩):=by have h9:=hin 3 30 (by kernel_rfl) (by kernel_rfl);exact h9.1.trans (Qc _ h9.2 rfl)
     exact Zz (.tmp 30) rfl _ _ e0 (Qb (hJ.1.1.at 0 _ rfl) 0 _ rfl) ⟨_,rfl,Qe rfl,Le.Qj [2,9,10,11,12] SA.loc (by omega) (by decide) hJ⟩
   | 5,ho=>
     obtain rfl:=Oj9 ho;have e0:=hout 2 (by kernel_rfl);replace e0:a'.eval (.tmp 2)=_:=e0.trans rfl;exact o_fld135_2 (.tmp 2) rfl b1 e0 ⟨_,rfl,Qe rfl,Le.Qj [2,9,10,11,12] SA.loc (by omega) (by decide) hJ⟩
   | 6,ho=>
     obtain rfl:=Oj9 ho;have e0:a'.eval (.tmp 32)= .pointer (some ⟨b1,6,none⟩):=by have h9:=hin 5 32 (by kernel_rfl) (by kernel_rfl);exact h9.1.trans (Qc _ h9.2 rfl)
     exact Ar.Zx (.tmp 32) rfl _ _ e0 (Qb (hJ.1.1.at 0 _ rfl) 6 _ rfl) ⟨_,rfl,Qe rfl,Le.Qj [2,9,10,11,12] SA.loc (by omega) (by decide) hJ⟩
   | 7,ho=>
     obtain rfl:=Oj9 ho;have e0:=hout 2 (by kernel_rfl);replace e0:a'.eval (.tmp 2)=_:=e0.trans rfl;exact o_fld135_3 (.tmp 2) rfl b1 e0 ⟨_,rfl,Qe rfl,Le.Qj [2,9,10,11,12] SA.loc (by omega) (by decide) hJ⟩
   | 8,ho=>
     obtain rfl:=Oj9 ho;have e0:a'.eval (.tmp 34)= .pointer (some ⟨b1,7,none⟩):=by have h9:=hin 7 34 (by kernel_rfl) (by kernel_rfl);exact h9.1.trans (Qc _ h9.2 rfl)
     exact Za (.tmp 34) rfl _ _ e0 (Qb (hJ.1.1.at 0 _ rfl) 7 _ rfl) ⟨_,rfl,Qe rfl,Le.Qj [2,9,10,11,12] SA.loc (by omega) (by decide) hJ⟩
   | 9,ho=>
     obtain rfl:=Oj9 ho;have e0:a'.eval (.tmp 31)= .pointer ao:=by have h9:=hin 4 31 (by kernel_rfl) (by kernel_rfl);exact h9.1.trans (Qc _ h9.2 rfl)
     have e1:a'.eval (.tmp 33)= .int .i64 n:=by have h9:=hin 6 33 (by kernel_rfl) (by kernel_rfl);exact h9.1.trans (Qc _ h9.2 rfl)
     have e2:a'.eval (.tmp 35)= .int .i64 ep:=by have h9:=hin 8 35 (by kernel_rfl) (by kernel_rfl);exact h9.1.trans (Qc _ h9.2 rfl)
     refine Qq 135 _ _ rfl #[.pointer ao,.int .i64 n,.int .i64 ep] (by simp [e0,e1,e2]) (cg135 _ _) ((fence135 (.pointer ao) o n ep w2 ((Qa HD).kept hJ.1.1.kept)).mono ?_);rintro e w3 ⟨q,rfl,hq1,hk3⟩;obtain⟨⟨hM,hz⟩,h2,h2',h9,h10,-,-⟩:=hJ;have hn10:l.getD 10 false=false:=hnot 10 (by kernel_rfl);have hn11:l.getD 11 false=false:=hnot 11 (by kernel_rfl);have hn12:l.getD 12 false=false:=hnot 12 (by kernel_rfl);exact⟨_,rfl,_,rfl,QA rfl,Le.QJ (by omega) ⟨⟨hM.step hk3,Nat.le_trans hz hk3.size⟩,(fun h=>(h2 h).k hk3),(fun h h'=>(h2' h h').k hk3),(fun _=>hq1),(fun _ h=>by have h:l.getD 10 false=true:=h;rw [hn10] at h;cases h),(fun h=>by have h:l.getD 11 false=true:=h;rw [hn11] at h;cases h),(fun h=>by have h:l.getD 12 false=true:=h;rw [hn12] at h;cases h)⟩⟩
   | 10,ho=>
     obtain rfl:=Oj9 ho;have e0:a'.eval (.tmp 36)=vs 9:=(hin 9 36 (by kernel_rfl) (by kernel_rfl)).1;obtain⟨⟨hM,hz⟩,h2,h2',h9,h10,-,-⟩:=hJ;have hd9:l.getD 9 false=true:=hdep 9 (by kernel_rfl);have hn11:l.getD 11 false=false:=hnot 11 (by kernel_rfl);have hn12:l.getD 12 false=false:=hnot 12 (by kernel_rfl);have hk3:Kept [] w2 (w2.alloc (.cells [vs 9].toArray 92)):=(Kept.refl _ _).alloc _;refine o_bs1 (.tmp 36) rfl _ e0 (h9 hd9) ⟨_,rfl,QA rfl,Le.QJ (by omega) ⟨⟨hM.step hk3,Nat.le_trans hz hk3.size⟩,(fun h=>(h2 h).k hk3),(fun h h'=>(h2' h h').k hk3),(fun h=>(h9 hd9).mono hk3),(fun _ _=>⟨hd9,w2.heap.size,rfl,Blk.new w2 92 _,?_⟩),(fun h=>by have h:l.getD 11 false=true:=h;rw [hn11] at h;cases h),(fun h=>by have h:l.getD 12 false=true:=h;rw [hn12] at h;cases h)⟩⟩;rw [Qa HUB];have:=Qa HUL;intro e;injection e with e;omega
   | 11,ho=>
     obtain rfl:=Oj9 ho;have e0:a'.eval (.tmp 29)=vs 2:=(hin 2 29 (by kernel_rfl) (by kernel_rfl)).1;have e1:a'.eval (.tmp 37)=vs 10:=(hin 10 37 (by kernel_rfl) (by kernel_rfl)).1;obtain⟨⟨hM,hz⟩,-,h2',h9,h10,-,-⟩:=hJ;have hd2:l.getD 2 false=true:=hdep 2 (by kernel_rfl);have hd10:l.getD 10 false=true:=hdep 10 (by kernel_rfl);have hn12:l.getD 12 false=false:=hnot 12 (by kernel_rfl);have hQ:=h2' hd2 hlf;obtain⟨a9,g,hg,hb,-⟩:=h10 hlf hd10;rw [hg] at e1;obtain⟨v',w',hr,hq',hk',k92⟩:=run_app95 w2 _ (vs 2) w.heap.size (L0++N) [(vs 9,qa (!QF o n ep) 8)] hQ hM.kept.size (Qa HW0) g 1 (Rg.of hb) (fun q hq=>by simp at hq;subst hq;exact h9 a9) (by have:=Qa HLN;have:=Qa HNL;simp;omega);have hX:∀x∈(vs 2).ownBlock.toList,w.heap.size≤x:=fun x hx=>by rw [Option.mem_toList] at hx;exact(hQ.own hx).1
     exact o_app (.tmp 29) (.tmp 37) rfl _ _ _ w' e0 e1 hr ⟨_,rfl,QA rfl,Le.QJ (by omega) ⟨⟨mm92 hM k92 (by simp) hk' hX,Nat.le_trans hz hk'.size⟩,(fun h=>by have h:l.getD 2 false=false:=h;rw [hd2] at h;cases h),(fun _ h=>by cases h),(fun h=>(h9 h).mono92 k92),(fun h=>by cases h),(fun _=>⟨_,hq'⟩),(fun h=>by have h:l.getD 12 false=true:=h;rw [hn12] at h;cases h)⟩⟩
   | 12,ho=>
     obtain rfl:=Oj9 ho;have e0:a'.eval (.tmp 38)=vs 11:=(hin 11 38 (by kernel_rfl) (by kernel_rfl)).1;obtain⟨⟨hM,hz⟩,h2,h2',h9,h10,h11,-⟩:=hJ;have hd11:l.getD 11 false=true:=hdep 11 (by kernel_rfl);exact QI (.tmp 38) rfl _ e0 ⟨_,rfl,QA rfl,Le.QJ (by omega) ⟨⟨hM,hz⟩,h2,h2',h9,h10,h11,fun _=>⟨hd11,rfl⟩⟩⟩
 intro l_ vs5 V5 hl hJ htold;have t0:vs5 0=u:=Qc _ (htold 0 (by decide)) rfl;have t1:vs5 1= .slice mao mn mc:=Qc _ (htold 1 (by decide)) rfl;have t3:vs5 3= .pointer (some ⟨b1,0,none⟩):=Qc _ (htold 3 (by decide)) rfl;have t4:vs5 4= .pointer ao:=Qc _ (htold 4 (by decide)) rfl;have t5:vs5 5= .pointer (some ⟨b1,6,none⟩):=Qc _ (htold 5 (by decide)) rfl;have t6:vs5 6= .int .i64 n:=Qc _ (htold 6 (by decide)) rfl;have t7:vs5 7= .pointer (some ⟨b1,7,none⟩):=Qc _ (htold 7 (by decide)) rfl;have t8:vs5 8= .int .i64 ep:=Qc _ (htold 8 (by decide)) rfl;rw [show (List.range 13).map vs5= [vs5 0,vs5 1,vs5 2,vs5 3,vs5 4,vs5 5,vs5 6,vs5 7,vs5 8,vs5 9,vs5 10,vs5 11,vs5 12] from rfl];simp only [t0,t1,t3,t4,t5,t6,t7,t8,Qz,Act.put,List.setIfInBounds_toArray,List.set_cons_succ,List.set_cons_zero];clear t0 t1 t3 t4 t5 t6 t7 t8 htold;obtain⟨q5,hq5⟩:=hJ.2.2.2.2.2.1 (hl 11 (by decide));have hE:=(hJ.2.2.2.2.2.2 (hl 12 (by decide))).2;have HM5:=hide hJ.1.1;have HQ5:=hide hq5;rw [hE];generalize vs5 11=u11 at*;clear hJ hl hE hq5;go_wp2_with fail
 go_ret
 exact⟨_,_,rfl,Qa HQ5,by simp [Qa HS0],(Qa HM5).kept⟩
end Go.Proofs.YtcfflbafclmheaaGreatDoor
