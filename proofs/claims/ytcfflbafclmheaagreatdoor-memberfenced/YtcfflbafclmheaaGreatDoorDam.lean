/-
  Texts of the walks of member, shortened.
-/
import Derived.Test.YtcfflbafclmheaaGreatDoorDal
set_option maxRecDepth 100000
set_option maxHeartbeats 100000000
set_option linter.unusedSimpArgs false
namespace Go.Proofs.YtcfflbafclmheaaGreatDoor
open Go.RowKit
open Le (Mm Qh Qm)
def oSec (o:Option Dv.Dev) (n:Nat):List Int:=
 match o with
 | none=>Dv.nought
 | some D=>D.S.getD n Dv.nought
def mview (o:Option Dv.Dev) (j:Job):Vi.Vw×Int:=if first0 [qa (decide (0<Qo o)) 1,qa (Qq o j) 2]=0 then Vi.getV (oSec o 0) else (Vi.zv,first0 [qa (decide (0<Qo o)) 1,qa (Qq o j) 2])
def mlease (o:Option Dv.Dev) (j:Job) (n:Int):Le.Le×Int:=if first0 [qa (decide (0<Qo o)) 1,qa (Qq o j) 2,qa (Qp j n) 2]=0 then Le.getL (oSec o (1+n.toNat)) else (Le.le0,first0 [qa (decide (0<Qo o)) 1,qa (Qq o j) 2,qa (Qp j n) 2])
theorem qa_zero {t:Bool} {e:Int} (he:e≠0) (h:qa t e=0):t=true:=by
 cases t with
 | true=>rfl
 | false=>simp [qa] at h;exact absurd h he
theorem QR {x:Int} {r:List Int} (h:first0 (x::r)=0):x=0∧first0 r=0:=by
 unfold first0 at h
 split at h
 · exact⟨by assumption,h⟩
 · exact absurd h (by assumption)
theorem fits_dev {w:World} {p:Value} {o:Option Dv.Dev} {j:Job} (h:Dq w p o) (h1:qa (decide (0<Qo o)) 1=0) (h2:qa (Qq o j) 2=0):∃b g D,o=some D∧p=P0 b∧Dv.Dv w b g D∧j.may=true∧j.p*2+(j.L+9)≤D.S.length∧j.n≤D.N:=by
 have h1:=qa_zero (by decide) h1
 have h2:=qa_zero (by decide) h2
 cases o with
 | none=>simp [Qo] at h1
 | some D=>
   obtain⟨b,g,e,hd⟩:=h
   simp only [Qq,Bool.and_eq_true,decide_eq_true_eq] at h2
   obtain⟨h3,h4,h5⟩:=h2
   have hm:j.may=true:=by
     unfold Ar.Job.sectors at h3
     cases hj:j.may with
     | true=>rfl
     | false=>rw [hj] at h3;simp at h3
   refine⟨b,g,D,rfl,e,hd,hm,?_,h5⟩
   unfold Ar.Job.sectors at h4
   rw [if_pos hm] at h4
   exact h4
theorem getV_zero (s:List Int) (h:(Vi.getV s).2≠0):(Vi.getV s).1=Vi.zv:=by
 unfold Vi.getV at h⊢
 split
 · rename_i e;rw [if_pos e] at h;simp at h
 · rename_i e
   rw [if_neg e] at h
   split
   · rename_i e2;rw [if_pos e2] at h;simp at h
   · rfl
theorem getL_zero (s:List Int) (h:(Le.getL s).2≠0):(Le.getL s).1=Le.le0:=by
 unfold Le.getL at h⊢
 split
 · rename_i e;rw [if_pos e] at h;simp at h
 · rfl
theorem res13 (w:World) (z:Nat) (vs:List Value) (e:Int) (tmps:Array Value) (h4:tmps[4]?.getD undef=P0 z) (h5:tmps[5]?.getD undef= .int .i64 e) (hl:vs.length=19) (hb:Blk w z 29 vs):(results Tryz.f13 tmps).run Tryz.prog w= .ok (.tuple #[Qd vs,.int .i64 e]) w:=by
 have h1:=Zo Vi.Ql hl hb
 simp [results,Tryz.results13,h4,h5,h1,asAddr]
theorem res30 (w:World) (z:Nat) (vs:List Value) (e:Int) (tmps:Array Value) (h4:tmps[6]?.getD undef=P0 z) (h5:tmps[7]?.getD undef= .int .i64 e) (hl:vs.length=3) (hb:Blk w z 73 vs):(results Tryz.f30 tmps).run Tryz.prog w= .ok (.tuple #[Qd vs,.int .i64 e]) w:=by
 have h1:=Zo Le.QG hl hb
 simp [results,Tryz.results30,h4,h5,h1,asAddr]
theorem res46 (w:World) (z:Nat) (vs:List Value) (tmps:Array Value) (h4:tmps[2]?.getD undef=P0 z) (hl:vs.length=19) (hb:Blk w z 29 vs):(results Tryz.f46 tmps).run Tryz.prog w= .ok (Qd vs) w:=by
 have h1:=Zo Vi.Ql hl hb
 simp [results,Tryz.results46,h4,h1,asAddr]
theorem res65 (w:World) (z:Nat) (vs:List Value) (tmps:Array Value) (h4:tmps[3]?.getD undef=P0 z) (hl:vs.length=3) (hb:Blk w z 73 vs):(results Tryz.f65 tmps).run Tryz.prog w= .ok (Qd vs) w:=by
 have h1:=Zo Le.QG hl hb
 simp [results,Tryz.results65,h4,h1,asAddr]
theorem do46 (b1 b2:Nat) (ao:Option Addr) (j:Job) (r:Vi.Vw×Int) (W:World) (B1:Blk W b1 32 [.pointer ao]) (B2:Blk W b2 23 (Qf j)) (hl:(Vi.vwC r.1).length=19) (h1:∀v∈Vi.vwC r.1,v.oneCell'=true)
   (h47:∀V,Kept [] W V→Calls Tryz.prog 47 #[.pointer ao,Qd (Qf j)] V fun e w'=>Kept [] V w'∧Got e (Vi.vwC r.1) r.2):
   Calls Tryz.prog 46 #[P0 b1,P0 b2] W fun e W'=>Kept [] W W'∧Got e (Vi.vwC r.1) r.2:=by
 have H47:∀V,Kept [] W V→Hid (Calls Tryz.prog 47 #[.pointer ao,Qd (Qf j)] V fun e w'=>Kept [] V w'∧Got e (Vi.vwC r.1) r.2):=fun V hV=>hide (h47 V hV)
 have HL:=hide hl
 have HO:=hide h1
 have HB1:=hide B1
 have HB2:=hide B2
 clear h47 hl h1 B1 B2
 have M:Hid (Mm [] W W []):=hide Mm.init
 go_enter Tryz.func46,Tryz.ntmps46
 go_wp2_with (first |(refine Qs (Vi.vwC Vi.zv) Vi.QC 2 rfl rfl rfl ?_;intro W1 bz e1 B1 K1;replace M:=hide ((Qa M).new e1 B1 K1);clear e1 B1 K1;have hc1:=Qc ((Qa HB1).kept (Qa M).kept (by simp)) 0 _ rfl;refine Stp.go ?_))
 constructor
 go_wp2_with (first |(refine Qg Zw rfl (.tmp 1) rfl b2 0 rfl (Qf j) rfl ((Qa HB2).kept (Qa M).kept (by simp)).range ?_;refine Stp.go ?_))
 constructor
 go_wp2_with (first |(go_at_call 47;refine(Qa (H47 _ (Qa M).kept)).mono ?_;refine Stp.go ?_))
 constructor
 rintro e V ⟨K7,⟨h0,rfl⟩ | ⟨h0,rfl⟩⟩
 · replace M:=hide ((Qa M).step K7)
   clear K7
   go_wp2_with (first |(refine Qh Vi.Ql rfl (.tmp 2) (.tmp 5) rfl rfl bz 0 (Vi.vwC r.1) rfl rfl (Qa HL) (Qa HO) (Qa M) rfl rfl ?_;intro W21 N21;replace M:Hid (Mm [] W W21 [(bz,29,Vi.vwC r.1)]):=hide N21;clear N21;refine Stp.go ?_))
   constructor
   go_wp2_with fail
   refine bodyPost_ret (res46 _ bz _ _ rfl (Qa HL) ((Qa M).at 0 _ rfl)) rfl ?_
   exact⟨(Qa M).kept,.inl ⟨h0,rfl⟩⟩
 · exact⟨rfl,(Qa M).kept.trans K7,.inr ⟨h0,rfl⟩⟩
theorem do65 (b1 b2 b3:Nat) (ao:Option Addr) (j:Job) (k:Nat) (r:Le.Le×Int) (W:World) (B1:Blk W b1 32 [.pointer ao]) (B2:Blk W b2 23 (Qf j)) (B3:Blk W b3 3 [.int .i64 k]) (hl:(Le.Le.C r.1).length=3) (h1:∀v∈Le.Le.C r.1,v.oneCell'=true)
   (h47:∀V,Kept [] W V→Calls Tryz.prog 66 #[.pointer ao,Qd (Qf j),.int .i64 k] V fun e w'=>Kept [] V w'∧Got e (Le.Le.C r.1) r.2):
   Calls Tryz.prog 65 #[P0 b1,P0 b2,P0 b3] W fun e W'=>Kept [] W W'∧Got e (Le.Le.C r.1) r.2:=by
 have H47:∀V,Kept [] W V→Hid (Calls Tryz.prog 66 #[.pointer ao,Qd (Qf j),.int .i64 k] V fun e w'=>Kept [] V w'∧Got e (Le.Le.C r.1) r.2):=fun V hV=>hide (h47 V hV)
 have HL:=hide hl
 have HO:=hide h1
 have HB1:=hide B1
 have HB2:=hide B2
 have HB3:=hide B3
 clear h47 hl h1 B1 B2 B3
 have M:Hid (Mm [] W W []):=hide Mm.init
 go_enter Tryz.func65,Tryz.ntmps65
 go_wp2_with (first |(refine Qs (Le.le0.C) Le.QZ 3 rfl rfl rfl ?_;intro W1 bz e1 B1 K1;replace M:=hide ((Qa M).new e1 B1 K1);clear e1 B1 K1;have hc1:=Qc ((Qa HB1).kept (Qa M).kept (by simp)) 0 _ rfl;have hc3:=Qc ((Qa HB3).kept (Qa M).kept (by simp)) 0 _ rfl;refine Stp.go ?_))
 constructor
 go_wp2_with (first |(refine Qg Zw rfl (.tmp 1) rfl b2 0 rfl (Qf j) rfl ((Qa HB2).kept (Qa M).kept (by simp)).range ?_;refine Stp.go ?_))
 constructor
 go_wp2_with (first |(go_at_call 66;refine(Qa (H47 _ (Qa M).kept)).mono ?_;refine Stp.go ?_))
 constructor
 rintro e V ⟨K7,⟨h0,rfl⟩ | ⟨h0,rfl⟩⟩
 · replace M:=hide ((Qa M).step K7)
   clear K7
   go_wp2_with (first |(refine Qh Le.QG rfl (.tmp 3) (.tmp 7) rfl rfl bz 0 (Le.Le.C r.1) rfl rfl (Qa HL) (Qa HO) (Qa M) rfl rfl ?_;intro W21 N21;replace M:Hid (Mm [] W W21 [(bz,73,Le.Le.C r.1)]):=hide N21;clear N21;refine Stp.go ?_))
   constructor
   go_wp2_with fail
   refine bodyPost_ret (res65 _ bz _ _ rfl (Qa HL) ((Qa M).at 0 _ rfl)) rfl ?_
   exact⟨(Qa M).kept,.inl ⟨h0,rfl⟩⟩
 · exact⟨rfl,(Qa M).kept.trans K7,.inr ⟨h0,rfl⟩⟩
open Go.RowKit
open Le (Mm Qh Qm)
theorem wpBoxP {ops:Array Oper} {rest:List Oper} {op:Oper} {a:Act} {w:World} {Q:Exit→Act→World→Prop} (hgd:op.guard=none) (x:Operand) (ho:op.op= .box 32 x) (ao:Option Addr) (hx:a.eval x= .pointer ao)
   (h:∀W b,b=w.heap.size→Blk W b 32 [.pointer ao]→Kept [] w W→wpList Tryz.prog ops Q rest (a.put op.dst (P0 b)) W):wpList Tryz.prog ops Q (op::rest) a w:=
 wpList_plain hgd fun K hK=>by
   unfold Oper.wp execOp
   simp only [ho,hx]
   exact hK _ _ (h _ _ rfl (Blk.new w 32 _) ((Kept.refl _ _).alloc _))
theorem view_a (b1 b2 b3:Nat) (ao:Option Addr) (o:Option Dv.Dev) (j:Job) (w W:World) (h:Dq w (.pointer ao) o) (hF:Vi.First w) (p:Nat) (L:List (Value×Int)) (hM:Mm [] w W [(b1,32,[.pointer ao]),(b2,23,Qf j),(b3,29,Vi.vwC Vi.zv)]) (hn:L.length=2) (hR:Rg W p (L.map Prod.fst)) (hq:∀q∈L,ZJ W q.1 q.2) (hs:L.map Prod.snd= [qa (decide (0<Qo o)) 1,qa (Qq o j) 2]):
   Calls Tryz.prog 43 #[.slice (some ⟨p,0,none⟩) 2 2,fnV 46 #[P0 b1,P0 b2]] W fun e w'=>e= .returned (.tuple #[Qd (Vi.vwC (mview o j).1),.int .i64 (mview o j).2])∧Kept [] W w':=by
 unfold mview
 refine ans43 p 2 2 46 _ W L hn (by omega) hR hq _ (by rw [hs]) _ (getV_zero _) (Vi.Qj (Vi.getV_len _)) (Vi.Qk _) ent46 ?_
 intro h0 V hV
 obtain⟨h1,h2⟩:=QR h0
 obtain⟨h2,-⟩:=QR h2
 have hk:=hM.kept.trans hV
 obtain⟨b,g,D,rfl,e,hd,hm,hS,-⟩:=fits_dev h h1 h2
 injection e with e
 subst e
 refine do46 b1 b2 (some ⟨b,0,none⟩) j _ V ((hM.at 0 _ rfl).kept hV (by simp)) ((hM.at 1 _ rfl).kept hV (by simp)) (Vi.Qj (Vi.getV_len _)) (Vi.Qk _) ?_
 intro U hU
 have hk2:=hk.trans hU
 exact on47 b g D j U (hd.kept hk2 (by simp) (by simp)) (hF.kept hk2) hm (by have:=hd.ok.s0;omega)
theorem view13 (p:Value) (o:Option Dv.Dev) (j:Job) (w:World) (h:Dq w p o) (hF:Vi.First w):Calls Tryz.prog 13 #[p,Qd (Qf j)] w fun e w'=>e= .returned (.tuple #[Qd (Vi.vwC (mview o j).1),.int .i64 (mview o j).2])∧Kept [] w w':=by
 obtain⟨ao,rfl⟩:=h.ptr
 have HA:Hid (∀(b1 b2 b3:Nat) (W:World) (p:Nat) (L:List (Value×Int)),Mm [] w W [(b1,32,[.pointer ao]),(b2,23,Qf j),(b3,29,Vi.vwC Vi.zv)]→L.length=2→Rg W p (L.map Prod.fst)→(∀q∈L,ZJ W q.1 q.2)→L.map Prod.snd= [qa (decide (0<Qo o)) 1,qa (Qq o j) 2]→
     Calls Tryz.prog 43 #[.slice (some ⟨p,0,none⟩) 2 2,fnV 46 #[P0 b1,P0 b2]] W fun e w'=>e= .returned (.tuple #[Qd (Vi.vwC (mview o j).1),.int .i64 (mview o j).2])∧Kept [] W w'):=hide (fun b1 b2 b3 W p L=>view_a b1 b2 b3 ao o j w W h hF p L)
 have hl:(Vi.vwC (mview o j).1).length=19:=by
   unfold mview
   split
   · exact Vi.Qj (Vi.getV_len _)
   · rfl
 obtain⟨r,hr⟩:∃r,mview o j=r:=⟨_,rfl⟩
 rw [hr] at hl HA⊢
 have HL:=hide hl
 have HD:=hide h
 clear hl h hr hF
 have M:Hid (Mm [] w w []):=hide Mm.init
 go_enter Tryz.func13,Tryz.ntmps13
 go_wp2_with (first |(refine wpBoxP rfl (.tmp 0) rfl ao rfl ?_;intro W1 b1 e1 B1 K1;replace M:=hide ((Qa M).new e1 B1 K1);clear e1 B1 K1;refine Stp.go ?_))
 constructor
 go_wp2_with (first |(refine Qn rfl (.tmp 1) rfl (Qf j) rfl ?_;intro W2 b2 e2 B2 K2;replace M:=hide ((Qa M).new e2 B2 K2);clear e2 B2 K2;refine Stp.go ?_))
 constructor
 go_wp2_with (first |(refine Qs (Vi.vwC Vi.zv) Vi.QC 4 rfl rfl rfl ?_;intro W3 b3 e3 B3 K3;replace M:=hide ((Qa M).new e3 B3 K3);clear e3 B3 K3;refine Stp.go ?_))
 constructor
 go_wp2_with fail
 refine wp_region_any mixed (QK 12 rfl (by kernel_rfl) [some (.pointer ao),none,some (.pointer ao),some (Qd (Qf j)),none,none,some (fnV 46 #[P0 b1,P0 b2]),some (.tuple #[Qd (Vi.vwC r.1),.int .i64 r.2]),some (Qd (Vi.vwC r.1)),some (.int .i64 r.2),none,some (.int .i64 r.2)] rfl (by kernel_rfl) (fun l vs W=>(SQ w (fun Z=> [(b1,32,[.pointer ao]),(b2,23,Qf j),(b3,29,Z)]) (Vi.vwC Vi.zv) (Vi.vwC r.1) 10 5 [(1,qa (decide (0<Qo o)) 1),(4,qa (Qq o j) 2)]) (fun i=>l.getD i false) vs W) (⟨fun _=>⟨(Qa M).drew,(by simp),(fun h=>by cases h)⟩,fun h=>by cases h⟩) ?_ ?_)
 · intro ix o' hi ho a' w2 l vs hls hlf hJ hout hin hdep hnot
   match ix,ho with
   | 0,ho=>
     obtain rfl:=Oj9 ho
     have e0:=hout 2 (by kernel_rfl)
     replace e0:a'.eval (.tmp 2)=_:=e0.trans rfl
     obtain⟨hM,-,-⟩:=hJ.1 (hnot 10 (by kernel_rfl))
     exact Zv (.tmp 2) rfl _ _ e0 (Qc (hM.at 0 _ rfl) 0 _ rfl) ⟨_,rfl,Qe rfl,Le.Qi (St:=(SQ w (fun Z=> [(b1,32,[.pointer ao]),(b2,23,Qf j),(b3,29,Z)]) (Vi.vwC Vi.zv) (Vi.vwC r.1) 10 5 [(1,qa (decide (0<Qo o)) 1),(4,qa (Qq o j) 2)])) [10,5,1,4] (SQ.loc (qs:= [(1,qa (decide (0<Qo o)) 1),(4,qa (Qq o j) 2)])) (by omega) (by decide) hJ⟩
   | 1,ho=>
     obtain rfl:=Oj9 ho
     have e0:a'.eval (.tmp 6)= .pointer ao:=by have h9:=hin 0 6 (by kernel_rfl) (by kernel_rfl);exact h9.1.trans (Qb _ h9.2 rfl)
     obtain⟨hM,-,-⟩:=hJ.1 (hnot 10 (by kernel_rfl))
     refine Qt 44 _ _ rfl #[.pointer ao] (by simp [e0]) (cg44 _ _) ((there44 (.pointer ao) o w2 ((Qa HD).kept hM.kept)).mono ?_)
     rintro e w3 ⟨q,rfl,hq1,hk3⟩
     exact⟨_,rfl,_,rfl,Qz rfl,Le.QI (St:=(SQ w (fun Z=> [(b1,32,[.pointer ao]),(b2,23,Qf j),(b3,29,Z)]) (Vi.vwC Vi.zv) (Vi.vwC r.1) 10 5 [(1,qa (decide (0<Qo o)) 1),(4,qa (Qq o j) 2)])) (by omega) (SQ.ask hJ (hnot 10 (by kernel_rfl)) (hnot 5 (by kernel_rfl)) hk3 hq1 (by decide) (by decide) (by simp))⟩
   | 2,ho=>
     obtain rfl:=Oj9 ho
     have e0:=hout 2 (by kernel_rfl)
     replace e0:a'.eval (.tmp 2)=_:=e0.trans rfl
     obtain⟨hM,-,-⟩:=hJ.1 (hnot 10 (by kernel_rfl))
     exact Zv (.tmp 2) rfl _ _ e0 (Qc (hM.at 0 _ rfl) 0 _ rfl) ⟨_,rfl,Qe rfl,Le.Qi (St:=(SQ w (fun Z=> [(b1,32,[.pointer ao]),(b2,23,Qf j),(b3,29,Z)]) (Vi.vwC Vi.zv) (Vi.vwC r.1) 10 5 [(1,qa (decide (0<Qo o)) 1),(4,qa (Qq o j) 2)])) [10,5,1,4] (SQ.loc (qs:= [(1,qa (decide (0<Qo o)) 1),(4,qa (Qq o j) 2)])) (by omega) (by decide) hJ⟩
   | 3,ho=>
     obtain rfl:=Oj9 ho
     have e0:=hout 3 (by kernel_rfl)
     replace e0:a'.eval (.tmp 3)=_:=e0.trans rfl
     obtain⟨hM,-,-⟩:=hJ.1 (hnot 10 (by kernel_rfl))
     exact Qw Zw (.tmp 3) rfl b2 0 e0 (Qf j) rfl (hM.at 1 _ rfl).range ⟨_,rfl,Qe rfl,Le.Qi (St:=(SQ w (fun Z=> [(b1,32,[.pointer ao]),(b2,23,Qf j),(b3,29,Z)]) (Vi.vwC Vi.zv) (Vi.vwC r.1) 10 5 [(1,qa (decide (0<Qo o)) 1),(4,qa (Qq o j) 2)])) [10,5,1,4] (SQ.loc (qs:= [(1,qa (decide (0<Qo o)) 1),(4,qa (Qq o j) 2)])) (by omega) (by decide) hJ⟩
   | 4,ho=>
     obtain rfl:=Oj9 ho
     have e0:a'.eval (.tmp 8)= .pointer ao:=by have h9:=hin 2 8 (by kernel_rfl) (by kernel_rfl);exact h9.1.trans (Qb _ h9.2 rfl)
     have e1:a'.eval (.tmp 9)=Qd (Qf j):=by have h9:=hin 3 9 (by kernel_rfl) (by kernel_rfl);exact h9.1.trans (Qb _ h9.2 rfl)
     obtain⟨hM,-,-⟩:=hJ.1 (hnot 10 (by kernel_rfl))
     refine Qt 45 _ _ rfl #[.pointer ao,Qd (Qf j)] (by simp [e0,e1]) (cg45 _ _) ((fits45 (.pointer ao) o j w2 ((Qa HD).kept hM.kept)).mono ?_)
     rintro e w3 ⟨q,rfl,hq1,hk3⟩
     exact⟨_,rfl,_,rfl,Qz rfl,Le.QI (St:=(SQ w (fun Z=> [(b1,32,[.pointer ao]),(b2,23,Qf j),(b3,29,Z)]) (Vi.vwC Vi.zv) (Vi.vwC r.1) 10 5 [(1,qa (decide (0<Qo o)) 1),(4,qa (Qq o j) 2)])) (by omega) (SQ.ask hJ (hnot 10 (by kernel_rfl)) (hnot 5 (by kernel_rfl)) hk3 hq1 (by decide) (by decide) (by simp))⟩
   | 5,ho=>
     obtain rfl:=Oj9 ho
     have e0:a'.eval (.tmp 7)=vs 1:=(hin 1 7 (by kernel_rfl) (by kernel_rfl)).1
     have e1:a'.eval (.tmp 10)=vs 4:=(hin 4 10 (by kernel_rfl) (by kernel_rfl)).1
     obtain⟨hM,hQ,-⟩:=hJ.1 (hnot 10 (by kernel_rfl))
     have h1:=hdep 1 (by kernel_rfl)
     have h4:=hdep 4 (by kernel_rfl)
     exact o_bs2 (.tmp 7) (.tmp 10) rfl _ _ e0 e1 (hQ (1,qa (decide (0<Qo o)) 1) (by simp) h1) (hQ (4,qa (Qq o j) 2) (by simp) h4) ⟨_,rfl,Qz rfl,Le.QI (St:=(SQ w (fun Z=> [(b1,32,[.pointer ao]),(b2,23,Qf j),(b3,29,Z)]) (Vi.vwC Vi.zv) (Vi.vwC r.1) 10 5 [(1,qa (decide (0<Qo o)) 1),(4,qa (Qq o j) 2)])) (by omega) (SQ.row hJ (hnot 10 (by kernel_rfl)) (by intro q hq;simp at hq;rcases hq with rfl | rfl;exact h1;exact h4) (by decide) (by simp))⟩
   | 6,ho=>
     obtain rfl:=Oj9 ho
     have e0:=hout 2 (by kernel_rfl)
     replace e0:a'.eval (.tmp 2)=_:=e0.trans rfl
     have e1:=hout 3 (by kernel_rfl)
     replace e1:a'.eval (.tmp 3)=_:=e1.trans rfl
     have f0:a'.eval (.tmp 2)=P0 b1:=e0
     have f1:a'.eval (.tmp 3)=P0 b2:=e1
     exact o_mkf 46 _ rfl #[P0 b1,P0 b2] (by simp [f0,f1]) ⟨_,rfl,Qe rfl,Le.Qi (St:=(SQ w (fun Z=> [(b1,32,[.pointer ao]),(b2,23,Qf j),(b3,29,Z)]) (Vi.vwC Vi.zv) (Vi.vwC r.1) 10 5 [(1,qa (decide (0<Qo o)) 1),(4,qa (Qq o j) 2)])) [10,5,1,4] (SQ.loc (qs:= [(1,qa (decide (0<Qo o)) 1),(4,qa (Qq o j) 2)])) (by omega) (by decide) hJ⟩
   | 7,ho=>
     obtain rfl:=Oj9 ho
     have e0:a'.eval (.tmp 11)=vs 5:=(hin 5 11 (by kernel_rfl) (by kernel_rfl)).1
     have e1:a'.eval (.tmp 12)=fnV 46 #[P0 b1,P0 b2]:=by have h9:=hin 6 12 (by kernel_rfl) (by kernel_rfl);exact h9.1.trans (Qb _ h9.2 rfl)
     obtain⟨hM,-,-⟩:=hJ.1 (hnot 10 (by kernel_rfl))
     obtain⟨p,hp,L,hLn,hLr,hLq,hLs⟩:=SQ.list hJ (hnot 10 (by kernel_rfl)) (hdep 5 (by kernel_rfl))
     refine Qt 43 _ _ rfl #[.slice (some ⟨p,0,none⟩) 2 2,fnV 46 #[P0 b1,P0 b2]] (by simp only [List.map_toArray,List.map_cons,List.map_nil,e0,e1];rw [hp];rfl) (cg43 _ _) ((Qa HA b1 b2 b3 w2 p L hM hLn hLr hLq hLs).mono ?_)
     rintro e w3 ⟨rfl,hk3⟩
     exact⟨_,rfl,_,rfl,Qe rfl,Le.Qi (St:=(SQ w (fun Z=> [(b1,32,[.pointer ao]),(b2,23,Qf j),(b3,29,Z)]) (Vi.vwC Vi.zv) (Vi.vwC r.1) 10 5 [(1,qa (decide (0<Qo o)) 1),(4,qa (Qq o j) 2)])) [10,5,1,4] (SQ.loc (qs:= [(1,qa (decide (0<Qo o)) 1),(4,qa (Qq o j) 2)])) (by omega) (by decide) (SQ.step hJ (hnot 10 (by kernel_rfl)) hk3)⟩
   | 8,ho=>
     obtain rfl:=Oj9 ho
     have e0:a'.eval (.tmp 13)= .tuple #[Qd (Vi.vwC r.1),.int .i64 r.2]:=by have h9:=hin 7 13 (by kernel_rfl) (by kernel_rfl);exact h9.1.trans (Qb _ h9.2 rfl)
     exact o_ext (.tmp 13) 0 rfl _ _ e0 rfl ⟨_,rfl,Qe rfl,Le.Qi (St:=(SQ w (fun Z=> [(b1,32,[.pointer ao]),(b2,23,Qf j),(b3,29,Z)]) (Vi.vwC Vi.zv) (Vi.vwC r.1) 10 5 [(1,qa (decide (0<Qo o)) 1),(4,qa (Qq o j) 2)])) [10,5,1,4] (SQ.loc (qs:= [(1,qa (decide (0<Qo o)) 1),(4,qa (Qq o j) 2)])) (by omega) (by decide) hJ⟩
   | 9,ho=>
     obtain rfl:=Oj9 ho
     have e0:a'.eval (.tmp 13)= .tuple #[Qd (Vi.vwC r.1),.int .i64 r.2]:=by have h9:=hin 7 13 (by kernel_rfl) (by kernel_rfl);exact h9.1.trans (Qb _ h9.2 rfl)
     exact o_ext (.tmp 13) 1 rfl _ _ e0 rfl ⟨_,rfl,Qe rfl,Le.Qi (St:=(SQ w (fun Z=> [(b1,32,[.pointer ao]),(b2,23,Qf j),(b3,29,Z)]) (Vi.vwC Vi.zv) (Vi.vwC r.1) 10 5 [(1,qa (decide (0<Qo o)) 1),(4,qa (Qq o j) 2)])) [10,5,1,4] (SQ.loc (qs:= [(1,qa (decide (0<Qo o)) 1),(4,qa (Qq o j) 2)])) (by omega) (by decide) hJ⟩
   | 10,ho=>
     obtain rfl:=Oj9 ho
     have e0:=hout 4 (by kernel_rfl)
     replace e0:a'.eval (.tmp 4)=_:=e0.trans rfl
     have e1:a'.eval (.tmp 14)=Qd (Vi.vwC r.1):=by have h9:=hin 8 14 (by kernel_rfl) (by kernel_rfl);exact h9.1.trans (Qb _ h9.2 rfl)
     obtain⟨hM,-,-⟩:=hJ.1 hlf
     exact Ze Vi.Ql (.tmp 4) (.tmp 14) rfl rfl b3 0 (Vi.vwC r.1) e0 e1 (Qa HL) (Vi.Qk _) ((hM.at 2 _ rfl).there (show 0+19≤(Vi.vwC Vi.zv).length by decide)) ⟨undef,rfl,Qz rfl,Le.QI (St:=(SQ w (fun Z=> [(b1,32,[.pointer ao]),(b2,23,Qf j),(b3,29,Z)]) (Vi.vwC Vi.zv) (Vi.vwC r.1) 10 5 [(1,qa (decide (0<Qo o)) 1),(4,qa (Qq o j) 2)])) (by omega) (SQ.lay (hM.sets 2 rfl (Vi.vwC r.1) (by rw [Qa HL];rfl)))⟩
   | 11,ho=>
     obtain rfl:=Oj9 ho
     have e0:a'.eval (.tmp 15)= .int .i64 r.2:=by have h9:=hin 9 15 (by kernel_rfl) (by kernel_rfl);exact h9.1.trans (Qb _ h9.2 rfl)
     exact QH (.tmp 15) rfl _ e0 ⟨_,rfl,Qe rfl,Le.Qi (St:=(SQ w (fun Z=> [(b1,32,[.pointer ao]),(b2,23,Qf j),(b3,29,Z)]) (Vi.vwC Vi.zv) (Vi.vwC r.1) 10 5 [(1,qa (decide (0<Qo o)) 1),(4,qa (Qq o j) 2)])) [10,5,1,4] (SQ.loc (qs:= [(1,qa (decide (0<Qo o)) 1),(4,qa (Qq o j) 2)])) (by omega) (by decide) hJ⟩
 intro l_ vs4 V4 hl hJ htold
 have t0:vs4 0= .pointer ao:=Qb _ (htold 0 (by decide)) rfl
 have t2:vs4 2= .pointer ao:=Qb _ (htold 2 (by decide)) rfl
 have t3:vs4 3=Qd (Qf j):=Qb _ (htold 3 (by decide)) rfl
 have t6:vs4 6=fnV 46 #[P0 b1,P0 b2]:=Qb _ (htold 6 (by decide)) rfl
 have t7:vs4 7= .tuple #[Qd (Vi.vwC r.1),.int .i64 r.2]:=Qb _ (htold 7 (by decide)) rfl
 have t8:vs4 8=Qd (Vi.vwC r.1):=Qb _ (htold 8 (by decide)) rfl
 have t9:vs4 9= .int .i64 r.2:=Qb _ (htold 9 (by decide)) rfl
 have t11:vs4 11= .int .i64 r.2:=Qb _ (htold 11 (by decide)) rfl
 rw [show (List.range 12).map vs4= [vs4 0,vs4 1,vs4 2,vs4 3,vs4 4,vs4 5,vs4 6,vs4 7,vs4 8,vs4 9,vs4 10,vs4 11] from rfl]
 simp only [t0,t2,t3,t6,t7,t8,t9,t11,QB,Act.put,List.setIfInBounds_toArray,List.set_cons_succ,List.set_cons_zero]
 clear t0 t2 t3 t6 t7 t8 t9 t11 htold
 have hE:=hJ.2 (hl 10 (by decide))
 have M9:=hide hE
 clear hJ hl hE M
 go_wp2_with fail
 refine bodyPost_ret (res13 _ b3 _ _ _ rfl rfl (Qa HL) ((Qa M9).at 2 _ rfl)) rfl ?_
 exact⟨rfl,(Qa M9).kept⟩
theorem wpBoxI {ops:Array Oper} {rest:List Oper} {op:Oper} {a:Act} {w:World} {Q:Exit→Act→World→Prop} {T:Nat} (hgd:op.guard=none) (x:Operand) (ho:op.op= .box T x) (n:Int) (hx:a.eval x= .int .i64 n)
   (h:∀W b,b=w.heap.size→Blk W b T [.int .i64 n]→Kept [] w W→wpList Tryz.prog ops Q rest (a.put op.dst (P0 b)) W):wpList Tryz.prog ops Q (op::rest) a w:=
 wpList_plain hgd fun K hK=>by
   unfold Oper.wp execOp
   simp only [ho,hx]
   exact hK _ _ (h _ _ rfl (Blk.new w T _) ((Kept.refl _ _).alloc _))
theorem lease_a (b1 b2 b3 b4:Nat) (ao:Option Addr) (o:Option Dv.Dev) (j:Job) (k:Int) (w W:World) (h:Dq w (.pointer ao) o) (p:Nat) (L:List (Value×Int)) (hM:Mm [] w W [(b1,32,[.pointer ao]),(b2,23,Qf j),(b3,3,[.int .i64 k]),(b4,73,Le.le0.C)]) (hn:L.length=3) (hR:Rg W p (L.map Prod.fst)) (hq:∀q∈L,ZJ W q.1 q.2) (hs:L.map Prod.snd= [qa (decide (0<Qo o)) 1,qa (Qq o j) 2,qa (Qp j k) 2]):
   Calls Tryz.prog 63 #[.slice (some ⟨p,0,none⟩) 3 3,fnV 65 #[P0 b1,P0 b2,P0 b3]] W fun e w'=>e= .returned (.tuple #[Qd (Le.Le.C (mlease o j k).1),.int .i64 (mlease o j k).2])∧Kept [] W w':=by
 unfold mlease
 refine ans63 p 3 3 65 _ W L hn (by omega) hR hq _ (by rw [hs]) _ (getL_zero _) rfl (Le.QT _) ent65 ?_
 intro h0 V hV
 obtain⟨h1,h2⟩:=QR h0
 obtain⟨h2,h3⟩:=QR h2
 obtain⟨h3,-⟩:=QR h3
 have h3:=qa_zero (by decide) h3
 simp only [Qp,Bool.and_eq_true,decide_eq_true_eq] at h3
 have hk:=hM.kept.trans hV
 obtain⟨b,g,D,rfl,e,hd,hm,hS,hN⟩:=fits_dev h h1 h2
 injection e with e
 subst e
 obtain⟨n,rfl⟩:=Int.eq_ofNat_of_zero_le h3.1
 have hn8:=hd.ok.n1
 have hp:=Ar.Job.p_le hm
 have hL:=Ar.Job.L_le hm
 refine do65 b1 b2 b3 (some ⟨b,0,none⟩) j n _ V ((hM.at 0 _ rfl).kept hV (by simp)) ((hM.at 1 _ rfl).kept hV (by simp)) ((hM.at 2 _ rfl).kept hV (by simp)) rfl (Le.QT _) ?_
 intro U hU
 have hk2:=hk.trans hU
 exact on66 b g D j n (1+n) (by omega) rfl U (hd.kept hk2 (by simp) (by simp)) hm (by omega)
theorem lease30 (p:Value) (o:Option Dv.Dev) (j:Job) (k:Int) (w:World) (h:Dq w p o):Calls Tryz.prog 30 #[p,Qd (Qf j),.int .i64 k] w fun e w'=>e= .returned (.tuple #[Qd (Le.Le.C (mlease o j k).1),.int .i64 (mlease o j k).2])∧Kept [] w w':=by
 obtain⟨ao,rfl⟩:=h.ptr
 have HA:Hid (∀(b1 b2 b3 b4:Nat) (W:World) (p:Nat) (L:List (Value×Int)),Mm [] w W [(b1,32,[.pointer ao]),(b2,23,Qf j),(b3,3,[.int .i64 k]),(b4,73,Le.le0.C)]→L.length=3→Rg W p (L.map Prod.fst)→(∀q∈L,ZJ W q.1 q.2)→L.map Prod.snd= [qa (decide (0<Qo o)) 1,qa (Qq o j) 2,qa (Qp j k) 2]→
     Calls Tryz.prog 63 #[.slice (some ⟨p,0,none⟩) 3 3,fnV 65 #[P0 b1,P0 b2,P0 b3]] W fun e w'=>e= .returned (.tuple #[Qd (Le.Le.C (mlease o j k).1),.int .i64 (mlease o j k).2])∧Kept [] W w'):=hide (fun b1 b2 b3 b4 W p L=>lease_a b1 b2 b3 b4 ao o j k w W h p L)
 obtain⟨r,hr⟩:∃r,mlease o j k=r:=⟨_,rfl⟩
 rw [hr] at HA⊢
 have HL:Hid ((Le.Le.C r.1).length=3):=hide rfl
 have HD:=hide h
 clear h hr
 have M:Hid (Mm [] w w []):=hide Mm.init
 go_enter Tryz.func30,Tryz.ntmps30
 go_wp2_with (first |(refine wpBoxP rfl (.tmp 0) rfl ao rfl ?_;intro W1 b1 e1 B1 K1;replace M:=hide ((Qa M).new e1 B1 K1);clear e1 B1 K1;refine Stp.go ?_))
 constructor
 go_wp2_with (first |(refine Qn rfl (.tmp 1) rfl (Qf j) rfl ?_;intro W2 b2 e2 B2 K2;replace M:=hide ((Qa M).new e2 B2 K2);clear e2 B2 K2;refine Stp.go ?_))
 constructor
 go_wp2_with (first |(refine wpBoxI rfl (.tmp 2) rfl k rfl ?_;intro W3 b3 e3 B3 K3;replace M:=hide ((Qa M).new e3 B3 K3);clear e3 B3 K3;refine Stp.go ?_))
 constructor
 go_wp2_with (first |(refine Qs (Le.le0.C) Le.QZ 6 rfl rfl rfl ?_;intro W4 b4 e4 B4 K4;replace M:=hide ((Qa M).new e4 B4 K4);clear e4 B4 K4;refine Stp.go ?_))
 constructor
 go_wp2_with fail
 refine wp_region_any mixed (QK 15 rfl (by kernel_rfl) [some (.pointer ao),none,some (.pointer ao),some (Qd (Qf j)),none,some (Qd (Qf j)),some (.int .i64 k),none,none,some (fnV 65 #[P0 b1,P0 b2,P0 b3]),some (.tuple #[Qd (Le.Le.C r.1),.int .i64 r.2]),some (Qd (Le.Le.C r.1)),some (.int .i64 r.2),none,some (.int .i64 r.2)] rfl (by kernel_rfl) (fun l vs W=>(SQ w (fun Z=> [(b1,32,[.pointer ao]),(b2,23,Qf j),(b3,3,[.int .i64 k]),(b4,73,Z)]) (Le.le0.C) (Le.Le.C r.1) 13 8 [(1,qa (decide (0<Qo o)) 1),(4,qa (Qq o j) 2),(7,qa (Qp j k) 2)]) (fun i=>l.getD i false) vs W) (⟨fun _=>⟨(Qa M).drew,(by simp),(fun h=>by cases h)⟩,fun h=>by cases h⟩) ?_ ?_)
 · intro ix o' hi ho a' w2 l vs hls hlf hJ hout hin hdep hnot
   match ix,ho with
   | 0,ho=>
     obtain rfl:=Oj9 ho
     have e0:=hout 3 (by kernel_rfl)
     replace e0:a'.eval (.tmp 3)=_:=e0.trans rfl
     obtain⟨hM,-,-⟩:=hJ.1 (hnot 13 (by kernel_rfl))
     exact Zv (.tmp 3) rfl _ _ e0 (Qc (hM.at 0 _ rfl) 0 _ rfl) ⟨_,rfl,Qe rfl,Le.Qi (St:=(SQ w (fun Z=> [(b1,32,[.pointer ao]),(b2,23,Qf j),(b3,3,[.int .i64 k]),(b4,73,Z)]) (Le.le0.C) (Le.Le.C r.1) 13 8 [(1,qa (decide (0<Qo o)) 1),(4,qa (Qq o j) 2),(7,qa (Qp j k) 2)])) [13,8,1,4,7] (SQ.loc (qs:= [(1,qa (decide (0<Qo o)) 1),(4,qa (Qq o j) 2),(7,qa (Qp j k) 2)])) (by omega) (by decide) hJ⟩
   | 1,ho=>
     obtain rfl:=Oj9 ho
     have e0:a'.eval (.tmp 8)= .pointer ao:=by have h9:=hin 0 8 (by kernel_rfl) (by kernel_rfl);exact h9.1.trans (Qb _ h9.2 rfl)
     obtain⟨hM,-,-⟩:=hJ.1 (hnot 13 (by kernel_rfl))
     refine Qt 44 _ _ rfl #[.pointer ao] (by simp [e0]) (cg44 _ _) ((there44 (.pointer ao) o w2 ((Qa HD).kept hM.kept)).mono ?_)
     rintro e w3 ⟨q,rfl,hq1,hk3⟩
     exact⟨_,rfl,_,rfl,Qz rfl,Le.QI (St:=(SQ w (fun Z=> [(b1,32,[.pointer ao]),(b2,23,Qf j),(b3,3,[.int .i64 k]),(b4,73,Z)]) (Le.le0.C) (Le.Le.C r.1) 13 8 [(1,qa (decide (0<Qo o)) 1),(4,qa (Qq o j) 2),(7,qa (Qp j k) 2)])) (by omega) (SQ.ask hJ (hnot 13 (by kernel_rfl)) (hnot 8 (by kernel_rfl)) hk3 hq1 (by decide) (by decide) (by simp))⟩
   | 2,ho=>
     obtain rfl:=Oj9 ho
     have e0:=hout 3 (by kernel_rfl)
     replace e0:a'.eval (.tmp 3)=_:=e0.trans rfl
     obtain⟨hM,-,-⟩:=hJ.1 (hnot 13 (by kernel_rfl))
     exact Zv (.tmp 3) rfl _ _ e0 (Qc (hM.at 0 _ rfl) 0 _ rfl) ⟨_,rfl,Qe rfl,Le.Qi (St:=(SQ w (fun Z=> [(b1,32,[.pointer ao]),(b2,23,Qf j),(b3,3,[.int .i64 k]),(b4,73,Z)]) (Le.le0.C) (Le.Le.C r.1) 13 8 [(1,qa (decide (0<Qo o)) 1),(4,qa (Qq o j) 2),(7,qa (Qp j k) 2)])) [13,8,1,4,7] (SQ.loc (qs:= [(1,qa (decide (0<Qo o)) 1),(4,qa (Qq o j) 2),(7,qa (Qp j k) 2)])) (by omega) (by decide) hJ⟩
   | 3,ho=>
     obtain rfl:=Oj9 ho
     have e0:=hout 4 (by kernel_rfl)
     replace e0:a'.eval (.tmp 4)=_:=e0.trans rfl
     obtain⟨hM,-,-⟩:=hJ.1 (hnot 13 (by kernel_rfl))
     exact Qw Zw (.tmp 4) rfl b2 0 e0 (Qf j) rfl (hM.at 1 _ rfl).range ⟨_,rfl,Qe rfl,Le.Qi (St:=(SQ w (fun Z=> [(b1,32,[.pointer ao]),(b2,23,Qf j),(b3,3,[.int .i64 k]),(b4,73,Z)]) (Le.le0.C) (Le.Le.C r.1) 13 8 [(1,qa (decide (0<Qo o)) 1),(4,qa (Qq o j) 2),(7,qa (Qp j k) 2)])) [13,8,1,4,7] (SQ.loc (qs:= [(1,qa (decide (0<Qo o)) 1),(4,qa (Qq o j) 2),(7,qa (Qp j k) 2)])) (by omega) (by decide) hJ⟩
   | 4,ho=>
     obtain rfl:=Oj9 ho
     have e0:a'.eval (.tmp 10)= .pointer ao:=by have h9:=hin 2 10 (by kernel_rfl) (by kernel_rfl);exact h9.1.trans (Qb _ h9.2 rfl)
     have e1:a'.eval (.tmp 11)=Qd (Qf j):=by have h9:=hin 3 11 (by kernel_rfl) (by kernel_rfl);exact h9.1.trans (Qb _ h9.2 rfl)
     obtain⟨hM,-,-⟩:=hJ.1 (hnot 13 (by kernel_rfl))
     refine Qt 45 _ _ rfl #[.pointer ao,Qd (Qf j)] (by simp [e0,e1]) (cg45 _ _) ((fits45 (.pointer ao) o j w2 ((Qa HD).kept hM.kept)).mono ?_)
     rintro e w3 ⟨q,rfl,hq1,hk3⟩
     exact⟨_,rfl,_,rfl,Qz rfl,Le.QI (St:=(SQ w (fun Z=> [(b1,32,[.pointer ao]),(b2,23,Qf j),(b3,3,[.int .i64 k]),(b4,73,Z)]) (Le.le0.C) (Le.Le.C r.1) 13 8 [(1,qa (decide (0<Qo o)) 1),(4,qa (Qq o j) 2),(7,qa (Qp j k) 2)])) (by omega) (SQ.ask hJ (hnot 13 (by kernel_rfl)) (hnot 8 (by kernel_rfl)) hk3 hq1 (by decide) (by decide) (by simp))⟩
   | 5,ho=>
     obtain rfl:=Oj9 ho
     have e0:=hout 4 (by kernel_rfl)
     replace e0:a'.eval (.tmp 4)=_:=e0.trans rfl
     obtain⟨hM,-,-⟩:=hJ.1 (hnot 13 (by kernel_rfl))
     exact Qw Zw (.tmp 4) rfl b2 0 e0 (Qf j) rfl (hM.at 1 _ rfl).range ⟨_,rfl,Qe rfl,Le.Qi (St:=(SQ w (fun Z=> [(b1,32,[.pointer ao]),(b2,23,Qf j),(b3,3,[.int .i64 k]),(b4,73,Z)]) (Le.le0.C) (Le.Le.C r.1) 13 8 [(1,qa (decide (0<Qo o)) 1),(4,qa (Qq o j) 2),(7,qa (Qp j k) 2)])) [13,8,1,4,7] (SQ.loc (qs:= [(1,qa (decide (0<Qo o)) 1),(4,qa (Qq o j) 2),(7,qa (Qp j k) 2)])) (by omega) (by decide) hJ⟩
   | 6,ho=>
     obtain rfl:=Oj9 ho
     have e0:=hout 5 (by kernel_rfl)
     replace e0:a'.eval (.tmp 5)=_:=e0.trans rfl
     obtain⟨hM,-,-⟩:=hJ.1 (hnot 13 (by kernel_rfl))
     exact Ar.Zn (.tmp 5) rfl _ _ e0 (Qc (hM.at 2 _ rfl) 0 _ rfl) ⟨_,rfl,Qe rfl,Le.Qi (St:=(SQ w (fun Z=> [(b1,32,[.pointer ao]),(b2,23,Qf j),(b3,3,[.int .i64 k]),(b4,73,Z)]) (Le.le0.C) (Le.Le.C r.1) 13 8 [(1,qa (decide (0<Qo o)) 1),(4,qa (Qq o j) 2),(7,qa (Qp j k) 2)])) [13,8,1,4,7] (SQ.loc (qs:= [(1,qa (decide (0<Qo o)) 1),(4,qa (Qq o j) 2),(7,qa (Qp j k) 2)])) (by omega) (by decide) hJ⟩
   | 7,ho=>
     obtain rfl:=Oj9 ho
     have e0:a'.eval (.tmp 13)=Qd (Qf j):=by have h9:=hin 5 13 (by kernel_rfl) (by kernel_rfl);exact h9.1.trans (Qb _ h9.2 rfl)
     have e1:a'.eval (.tmp 14)= .int .i64 k:=by have h9:=hin 6 14 (by kernel_rfl) (by kernel_rfl);exact h9.1.trans (Qb _ h9.2 rfl)
     obtain⟨hM,-,-⟩:=hJ.1 (hnot 13 (by kernel_rfl))
     refine Qt 64 _ _ rfl #[Qd (Qf j),.int .i64 k] (by simp [e0,e1]) (cg64 _ _) ((node64 j k w2).mono ?_)
     rintro e w3 ⟨q,rfl,hq1,hk3⟩
     exact⟨_,rfl,_,rfl,Qz rfl,Le.QI (St:=(SQ w (fun Z=> [(b1,32,[.pointer ao]),(b2,23,Qf j),(b3,3,[.int .i64 k]),(b4,73,Z)]) (Le.le0.C) (Le.Le.C r.1) 13 8 [(1,qa (decide (0<Qo o)) 1),(4,qa (Qq o j) 2),(7,qa (Qp j k) 2)])) (by omega) (SQ.ask hJ (hnot 13 (by kernel_rfl)) (hnot 8 (by kernel_rfl)) hk3 hq1 (by decide) (by decide) (by simp))⟩
   | 8,ho=>
     obtain rfl:=Oj9 ho
     have e0:a'.eval (.tmp 9)=vs 1:=(hin 1 9 (by kernel_rfl) (by kernel_rfl)).1
     have e1:a'.eval (.tmp 12)=vs 4:=(hin 4 12 (by kernel_rfl) (by kernel_rfl)).1
     have e2:a'.eval (.tmp 15)=vs 7:=(hin 7 15 (by kernel_rfl) (by kernel_rfl)).1
     obtain⟨hM,hQ,-⟩:=hJ.1 (hnot 13 (by kernel_rfl))
     have h1:=hdep 1 (by kernel_rfl)
     have h4:=hdep 4 (by kernel_rfl)
     have h7:=hdep 7 (by kernel_rfl)
     exact o_bs3 (.tmp 9) (.tmp 12) (.tmp 15) rfl _ _ _ e0 e1 e2 (hQ (1,qa (decide (0<Qo o)) 1) (by simp) h1) (hQ (4,qa (Qq o j) 2) (by simp) h4) (hQ (7,qa (Qp j k) 2) (by simp) h7) ⟨_,rfl,Qz rfl,Le.QI (St:=(SQ w (fun Z=> [(b1,32,[.pointer ao]),(b2,23,Qf j),(b3,3,[.int .i64 k]),(b4,73,Z)]) (Le.le0.C) (Le.Le.C r.1) 13 8 [(1,qa (decide (0<Qo o)) 1),(4,qa (Qq o j) 2),(7,qa (Qp j k) 2)])) (by omega) (SQ.row hJ (hnot 13 (by kernel_rfl)) (by intro q hq;simp at hq;rcases hq with rfl | rfl | rfl;exact h1;exact h4;exact h7) (by decide) (by simp))⟩
   | 9,ho=>
     obtain rfl:=Oj9 ho
     have e0:=hout 3 (by kernel_rfl)
     replace e0:a'.eval (.tmp 3)=_:=e0.trans rfl
     have e1:=hout 4 (by kernel_rfl)
     replace e1:a'.eval (.tmp 4)=_:=e1.trans rfl
     have e2:=hout 5 (by kernel_rfl)
     replace e2:a'.eval (.tmp 5)=_:=e2.trans rfl
     have f0:a'.eval (.tmp 3)=P0 b1:=e0
     have f1:a'.eval (.tmp 4)=P0 b2:=e1
     have f2:a'.eval (.tmp 5)=P0 b3:=e2
     exact o_mkf 65 _ rfl #[P0 b1,P0 b2,P0 b3] (by simp [f0,f1,f2]) ⟨_,rfl,Qe rfl,Le.Qi (St:=(SQ w (fun Z=> [(b1,32,[.pointer ao]),(b2,23,Qf j),(b3,3,[.int .i64 k]),(b4,73,Z)]) (Le.le0.C) (Le.Le.C r.1) 13 8 [(1,qa (decide (0<Qo o)) 1),(4,qa (Qq o j) 2),(7,qa (Qp j k) 2)])) [13,8,1,4,7] (SQ.loc (qs:= [(1,qa (decide (0<Qo o)) 1),(4,qa (Qq o j) 2),(7,qa (Qp j k) 2)])) (by omega) (by decide) hJ⟩
   | 10,ho=>
     obtain rfl:=Oj9 ho
     have e0:a'.eval (.tmp 16)=vs 8:=(hin 8 16 (by kernel_rfl) (by kernel_rfl)).1
     have e1:a'.eval (.tmp 17)=fnV 65 #[P0 b1,P0 b2,P0 b3]:=by have h9:=hin 9 17 (by kernel_rfl) (by kernel_rfl);exact h9.1.trans (Qb _ h9.2 rfl)
     obtain⟨hM,-,-⟩:=hJ.1 (hnot 13 (by kernel_rfl))
     obtain⟨p,hp,L,hLn,hLr,hLq,hLs⟩:=SQ.list hJ (hnot 13 (by kernel_rfl)) (hdep 8 (by kernel_rfl))
     refine Qt 63 _ _ rfl #[.slice (some ⟨p,0,none⟩) 3 3,fnV 65 #[P0 b1,P0 b2,P0 b3]] (by simp only [List.map_toArray,List.map_cons,List.map_nil,e0,e1];rw [hp];rfl) (cg63 _ _) ((Qa HA b1 b2 b3 b4 w2 p L hM hLn hLr hLq hLs).mono ?_)
     rintro e w3 ⟨rfl,hk3⟩
     exact⟨_,rfl,_,rfl,Qe rfl,Le.Qi (St:=(SQ w (fun Z=> [(b1,32,[.pointer ao]),(b2,23,Qf j),(b3,3,[.int .i64 k]),(b4,73,Z)]) (Le.le0.C) (Le.Le.C r.1) 13 8 [(1,qa (decide (0<Qo o)) 1),(4,qa (Qq o j) 2),(7,qa (Qp j k) 2)])) [13,8,1,4,7] (SQ.loc (qs:= [(1,qa (decide (0<Qo o)) 1),(4,qa (Qq o j) 2),(7,qa (Qp j k) 2)])) (by omega) (by decide) (SQ.step hJ (hnot 13 (by kernel_rfl)) hk3)⟩
   | 11,ho=>
     obtain rfl:=Oj9 ho
     have e0:a'.eval (.tmp 18)= .tuple #[Qd (Le.Le.C r.1),.int .i64 r.2]:=by have h9:=hin 10 18 (by kernel_rfl) (by kernel_rfl);exact h9.1.trans (Qb _ h9.2 rfl)
     exact o_ext (.tmp 18) 0 rfl _ _ e0 rfl ⟨_,rfl,Qe rfl,Le.Qi (St:=(SQ w (fun Z=> [(b1,32,[.pointer ao]),(b2,23,Qf j),(b3,3,[.int .i64 k]),(b4,73,Z)]) (Le.le0.C) (Le.Le.C r.1) 13 8 [(1,qa (decide (0<Qo o)) 1),(4,qa (Qq o j) 2),(7,qa (Qp j k) 2)])) [13,8,1,4,7] (SQ.loc (qs:= [(1,qa (decide (0<Qo o)) 1),(4,qa (Qq o j) 2),(7,qa (Qp j k) 2)])) (by omega) (by decide) hJ⟩
   | 12,ho=>
     obtain rfl:=Oj9 ho
     have e0:a'.eval (.tmp 18)= .tuple #[Qd (Le.Le.C r.1),.int .i64 r.2]:=by have h9:=hin 10 18 (by kernel_rfl) (by kernel_rfl);exact h9.1.trans (Qb _ h9.2 rfl)
     exact o_ext (.tmp 18) 1 rfl _ _ e0 rfl ⟨_,rfl,Qe rfl,Le.Qi (St:=(SQ w (fun Z=> [(b1,32,[.pointer ao]),(b2,23,Qf j),(b3,3,[.int .i64 k]),(b4,73,Z)]) (Le.le0.C) (Le.Le.C r.1) 13 8 [(1,qa (decide (0<Qo o)) 1),(4,qa (Qq o j) 2),(7,qa (Qp j k) 2)])) [13,8,1,4,7] (SQ.loc (qs:= [(1,qa (decide (0<Qo o)) 1),(4,qa (Qq o j) 2),(7,qa (Qp j k) 2)])) (by omega) (by decide) hJ⟩
   | 13,ho=>
     obtain rfl:=Oj9 ho
     have e0:=hout 6 (by kernel_rfl)
     replace e0:a'.eval (.tmp 6)=_:=e0.trans rfl
     have e1:a'.eval (.tmp 19)=Qd (Le.Le.C r.1):=by have h9:=hin 11 19 (by kernel_rfl) (by kernel_rfl);exact h9.1.trans (Qb _ h9.2 rfl)
     obtain⟨hM,-,-⟩:=hJ.1 hlf
     exact Ze Le.QG (.tmp 6) (.tmp 19) rfl rfl b4 0 (Le.Le.C r.1) e0 e1 rfl (Le.QT _) ((hM.at 3 _ rfl).there (show 0+3≤Le.le0.C.length by decide)) ⟨undef,rfl,Qz rfl,Le.QI (St:=(SQ w (fun Z=> [(b1,32,[.pointer ao]),(b2,23,Qf j),(b3,3,[.int .i64 k]),(b4,73,Z)]) (Le.le0.C) (Le.Le.C r.1) 13 8 [(1,qa (decide (0<Qo o)) 1),(4,qa (Qq o j) 2),(7,qa (Qp j k) 2)])) (by omega) (SQ.lay (hM.sets 3 rfl (Le.Le.C r.1) rfl))⟩
   | 14,ho=>
     obtain rfl:=Oj9 ho
     have e0:a'.eval (.tmp 20)= .int .i64 r.2:=by have h9:=hin 12 20 (by kernel_rfl) (by kernel_rfl);exact h9.1.trans (Qb _ h9.2 rfl)
     exact QH (.tmp 20) rfl _ e0 ⟨_,rfl,Qe rfl,Le.Qi (St:=(SQ w (fun Z=> [(b1,32,[.pointer ao]),(b2,23,Qf j),(b3,3,[.int .i64 k]),(b4,73,Z)]) (Le.le0.C) (Le.Le.C r.1) 13 8 [(1,qa (decide (0<Qo o)) 1),(4,qa (Qq o j) 2),(7,qa (Qp j k) 2)])) [13,8,1,4,7] (SQ.loc (qs:= [(1,qa (decide (0<Qo o)) 1),(4,qa (Qq o j) 2),(7,qa (Qp j k) 2)])) (by omega) (by decide) hJ⟩
 intro l_ vs4 V4 hl hJ htold
 have t0:vs4 0= .pointer ao:=Qb _ (htold 0 (by decide)) rfl
 have t2:vs4 2= .pointer ao:=Qb _ (htold 2 (by decide)) rfl
 have t3:vs4 3=Qd (Qf j):=Qb _ (htold 3 (by decide)) rfl
 have t5:vs4 5=Qd (Qf j):=Qb _ (htold 5 (by decide)) rfl
 have t6:vs4 6= .int .i64 k:=Qb _ (htold 6 (by decide)) rfl
 have t9:vs4 9=fnV 65 #[P0 b1,P0 b2,P0 b3]:=Qb _ (htold 9 (by decide)) rfl
 have t10:vs4 10= .tuple #[Qd (Le.Le.C r.1),.int .i64 r.2]:=Qb _ (htold 10 (by decide)) rfl
 have t11:vs4 11=Qd (Le.Le.C r.1):=Qb _ (htold 11 (by decide)) rfl
 have t12:vs4 12= .int .i64 r.2:=Qb _ (htold 12 (by decide)) rfl
 have t14:vs4 14= .int .i64 r.2:=Qb _ (htold 14 (by decide)) rfl
 rw [show (List.range 15).map vs4= [vs4 0,vs4 1,vs4 2,vs4 3,vs4 4,vs4 5,vs4 6,vs4 7,vs4 8,vs4 9,vs4 10,vs4 11,vs4 12,vs4 13,vs4 14] from rfl]
 simp only [t0,t2,t3,t5,t6,t9,t10,t11,t12,t14,QB,Act.put,List.setIfInBounds_toArray,List.set_cons_succ,List.set_cons_zero]
 clear t0 t2 t3 t5 t6 t9 t10 t11 t12 t14 htold
 have hE:=hJ.2 (hl 13 (by decide))
 have M9:=hide hE
 clear hJ hl hE M
 go_wp2_with fail
 refine bodyPost_ret (res30 _ b4 _ _ _ rfl rfl (Qa HL) ((Qa M9).at 3 _ rfl)) rfl ?_
 exact⟨rfl,(Qa M9).kept⟩
end Go.Proofs.YtcfflbafclmheaaGreatDoor
