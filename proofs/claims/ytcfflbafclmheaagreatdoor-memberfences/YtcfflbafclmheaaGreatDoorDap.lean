/-
  Texts of the walks of member, shortened.
-/
import Derived.Test.YtcfflbafclmheaaGreatDoorDao
import Derived.Great.BuildSlice
set_option maxRecDepth 100000
set_option maxHeartbeats 100000000
set_option linter.unusedSimpArgs false
namespace Go.Proofs.YtcfflbafclmheaaGreatDoor
open Go.RowKit
open Le (Mm Qh Qo)
@[reducible] def SO (w:World) (Y:List Nat) (P:World→Prop) (mk:List Value→List (Nat×Nat×List Value)) (z0 z1:List Value) (XS:List Int) (q1:Value) (x1 x4:Int) (d:Nat→Bool) (vs:Nat→Value) (W:World):Prop:=
 SJ w Y P mk z0 z1 7 9 13 XS d vs W∧(d 9=false→ZP W q1 x1∧(d 4=true→ZP W (vs 4) x4)∧(d 6=true→d 4=true∧∃p,vs 6= .slice (some ⟨p,0,none⟩) 2 2∧Rg W p [vs 4,q1]))
section
variable {w:World} {Y:List Nat} {P:World→Prop} {mk:List Value→List (Nat×Nat×List Value)} {z0 z1:List Value} {XS:List Int} {q1:Value} {x1 x4:Int}
theorem SO.loc:∀d d' vs vs' W,(∀i∈ [7,9,13,10,4,6],d i=d' i∧vs i=vs' i)→SO w Y P mk z0 z1 XS q1 x1 x4 d vs W→SO w Y P mk z0 z1 XS q1 x1 x4 d' vs' W:=by
 intro d d' vs vs' W H h;refine⟨SJ.loc d d' vs vs' W (fun i hi=>H i (by simp at hi ⊢;omega)) h.1,?_⟩;have e9:=H 9 (by simp);have e4:=H 4 (by simp);have e6:=H 6 (by simp);have h2:=h.2;rw [← e9.1,← e4.1,← e4.2,← e6.1,← e6.2];exact h2
end
theorem res33 (w:World) (z:Nat) (vs:List Value) (b:Bool) (e:Int) (tmps:Array Value) (h4:tmps[10]?.getD undef=P0 z) (h5:tmps[11]?.getD undef= .bool b) (h6:tmps[12]?.getD undef= .int .i64 e) (hl:vs.length=19) (hb:Blk w z 29 vs):(results Tryz.f33 tmps).run Tryz.prog w= .ok (.tuple #[Qd vs,.bool b,.int .i64 e]) w:=by
 have h1:=Zq Vi.Qn hl hb;simp [results,Tryz.results33,h4,h5,h6,h1,asAddr]
theorem outW (ao:Option Addr) (o:Option Dv.Dev) (j:Job) (n ep who:Int) (w:World) (hw0:0<w.heap.size) (h:Dq w (.pointer ao) o) (Y:List Nat) (z:Vi.Vw×Bool) (x:Int) (P:World→Prop) (hY:∀y∈Y,y<w.heap.size) (hP:∀V V' X,(∀y∈X,w.heap.size≤y)→P V→Kept X V V'→P V') (hz:z.1.ms.length=8)
   (hC:∀(W:World) (v:Value) (base:Nat) (L:List (Value×Int)) (c1 c2 c3 c4:Nat),Kept [] w W→Qr W base v L→L.map Prod.snd=asks o j n ep [qa (Qt j who) 2,qa (decide (who≠n)) 2]→Blk W c1 3 [.int .i64 n]→Blk W c2 2 [.int .i64 ep]→Blk W c3 3 [.int .i64 who]→Blk W c4 32 [.pointer ao]→Calls Tryz.prog 74 #[Qd (QK ao j n ep),v,fnV 80 #[P0 c1,P0 c2,P0 c3,P0 c4]] W fun e W'=>e= .returned (.tuple #[Qd (Vi.vwC z.1),.bool z.2,.int .i64 x])∧Kept Y W W'∧P W'):
   Calls Tryz.prog 33 #[.pointer ao,Qd (Qf j),.int .i64 n,.int .i64 ep,.int .i64 who] w fun e w'=>e= .returned (.tuple #[Qd (Vi.vwC z.1),.bool z.2,.int .i64 x])∧Kept Y w w'∧P w':=by
 have PU:∀W b5 b3,Blk W b5 3 [.int .i64 who]→Blk W b3 3 [.int .i64 n]→Hid (Calls Tryz.prog 78 #[.int .i64 2,fnV 79 #[P0 b5,P0 b3]] W fun r w'=>∃q,r= .returned q∧ZP w' q (qa (decide (who≠n)) 2)∧Kept [] W w'):=fun W b5 b3 B5 B3=>hide (unless_q 2 79 _ (decide (who≠n)) W ent79 (fun V hV=>do79 b5 b3 who n V (B5.k92 hV (by decide)) (B3.k92 hV (by decide))));have HC:=hide hC;have HY:=hide hY;have HP:=hide hP;have HLZ:=hide (Vi.Qk hz);have HD:=hide h;have HW0:=hide hw0;have hm:=hmf;clear hC hY hP hz h hw0;have M:Hid (Mm [] w w []):=hide Mm.init;go_enter Tryz.func33,Tryz.ntmps33
 go_wp2_with (first |(refine wpBoxP rfl (.tmp 0) rfl ao rfl ?_;intro W1 b1 e1 B1 K1;replace M:=hide ((Qa M).new e1 B1 K1);clear e1 B1 K1;refine Stp.go ?_))
 constructor
 go_wp2_with (first |(refine Qp rfl (.tmp 1) rfl (Qf j) rfl ?_;intro W2 b2 e2 B2 K2;replace M:=hide ((Qa M).new e2 B2 K2);clear e2 B2 K2;refine Stp.go ?_))
 constructor
 go_wp2_with (first |(refine wpBoxI rfl (.tmp 2) rfl n rfl ?_;intro W3 b3 e3 B3 K3;replace M:=hide ((Qa M).new e3 B3 K3);clear e3 B3 K3;refine Stp.go ?_))
 constructor
 go_wp2_with (first |(refine wpBoxI rfl (.tmp 3) rfl ep rfl ?_;intro W4 b4 e4 B4 K4;replace M:=hide ((Qa M).new e4 B4 K4);clear e4 B4 K4;refine Stp.go ?_))
 constructor
 go_wp2_with (first |(refine wpBoxI rfl (.tmp 4) rfl who rfl ?_;intro W5 b5 e5 B5 K5;replace M:=hide ((Qa M).new e5 B5 K5);clear e5 B5 K5;refine Stp.go ?_))
 constructor
 go_wp2_with (first |(refine Qv (Vi.vwC Vi.zv) Vi.QE 10 rfl rfl rfl ?_;intro W6 b6 e6 B6 K6;replace M:=hide ((Qa M).new e6 B6 K6);clear e6 B6 K6;have qp:=Qb ((Qa M).at 0 _ rfl) 0 _ rfl;have qn:=Qb ((Qa M).at 2 _ rfl) 0 _ rfl;have qe:=Qb ((Qa M).at 3 _ rfl) 0 _ rfl;refine Stp.go ?_))
 constructor
 go_wp2_with (first |(refine Qg Zv rfl (.tmp 6) rfl b2 0 rfl (Qf j) rfl ((Qa M).at 1 _ rfl).range ?_;refine Stp.go ?_))
 constructor
 go_wp2_with (first |(refine Zm rfl #[(0,.tmp 15),(1,.tmp 16),(2,.tmp 17),(3,.tmp 18)] rfl #[(0,.pointer ao),(1,Qd (Qf j)),(2,.int .i64 n),(3,.int .i64 ep)] (by kernel_rfl) (QK ao j n ep) (build135 _ ao j n ep) ?_;refine Stp.go ?_))
 constructor
 go_wp2_with (first |(refine QM row135 (QK none job0 0 0) rfl zero135 13 rfl rfl rfl (.tmp 19) rfl rfl rfl (QK ao j n ep) rfl (askC_one _ _ _ _) (by kernel_rfl) (by kernel_rfl) ?_;intro W7 b7 e7 B7 K7;replace M:=hide ((Qa M).new e7 B7 K7);clear e7 B7 K7;clear qp qn qe;refine Stp.go ?_))
 constructor
 go_wp2_with (first |(go_at_call 78;refine(Qa (PU _ _ _ ((Qa M).at 4 _ rfl) ((Qa M).at 2 _ rfl))).mono ?_;rintro e W8 ⟨q1,rfl,hq,K8⟩;obtain⟨fq,csq,hq0⟩:∃f0 cs0,q1=fnV f0 cs0:=(by obtain⟨f0,cs0,e,-⟩:=hq;exact⟨f0,cs0,e⟩);subst hq0;have HQ:=hide hq;replace M:=hide ((Qa M).step K8);clear K8 hq;refine Stp.go ?_))
 constructor
 go_wp2_with fail
 have HNZ:Hid (w.heap.size≤b6):=mm_new (Qa M) (b6,29,Vi.vwC Vi.zv) (by simp);refine wp_region_any mixed (QL 16 rfl (by kernel_rfl) [some (Qd (QK ao j n ep)),some (Qd (QK ao j n ep)),some (Qd (Qf j)),some (.int .i64 who),none,some (fnV fq csq),none,none,some (fnV 80 #[P0 b3,P0 b4,P0 b5,P0 b1]),some (.tuple #[Qd (Vi.vwC z.1),.bool z.2,.int .i64 x]),some (Qd (Vi.vwC z.1)),some (.bool z.2),some (.int .i64 x),none,some (.bool z.2),some (.int .i64 x)] rfl (by kernel_rfl) (fun l vs W=>(SO w Y P (fun Z=> [(b1,32,[.pointer ao]),(b2,23,Qf j),(b3,3,[.int .i64 n]),(b4,2,[.int .i64 ep]),(b5,3,[.int .i64 who]),(b6,29,Z),(b7,135,QK ao j n ep)]) (Vi.vwC Vi.zv) (Vi.vwC z.1) (asks o j n ep [qa (Qt j who) 2,qa (decide (who≠n)) 2]) (fnV fq csq) (qa (decide (who≠n)) 2) (qa (Qt j who) 2)) (fun i=>l.getD i false) vs W) (⟨⟨fun _=>⟨(Qa M).drew,(fun h=>by cases h)⟩,(fun h=>by cases h),(fun h=>by cases h)⟩,fun _=>⟨(Qa HQ).mono (Kept.refl _ _).drew,(fun h=>by cases h),(fun h=>by cases h)⟩⟩) ?_ ?_)
 · intro ix o' hi ho a' w2 l vs hls hlf hJ hout hin hdep hnot
   match ix,ho with
   | 0,ho=>
     obtain rfl:=Oj9 ho;have e0:=hout 13 (by kernel_rfl);replace e0:a'.eval (.tmp 13)=_:=e0.trans rfl;obtain⟨hM,-⟩:=hJ.1.1 (hnot 9 (by kernel_rfl));exact Qw row135 (.tmp 13) rfl b7 0 e0 (QK ao j n ep) rfl (hM.at 6 _ rfl).range ⟨_,rfl,Qe rfl,Le.Qj [7,9,13,10,4,6] SO.loc (by omega) (by decide) hJ⟩
   | 1,ho=>
     obtain rfl:=Oj9 ho;have e0:=hout 13 (by kernel_rfl);replace e0:a'.eval (.tmp 13)=_:=e0.trans rfl;obtain⟨hM,-⟩:=hJ.1.1 (hnot 9 (by kernel_rfl));exact Qw row135 (.tmp 13) rfl b7 0 e0 (QK ao j n ep) rfl (hM.at 6 _ rfl).range ⟨_,rfl,Qe rfl,Le.Qj [7,9,13,10,4,6] SO.loc (by omega) (by decide) hJ⟩
   | 2,ho=>
     obtain rfl:=Oj9 ho;have e0:=hout 6 (by kernel_rfl);replace e0:a'.eval (.tmp 6)=_:=e0.trans rfl;obtain⟨hM,-⟩:=hJ.1.1 (hnot 9 (by kernel_rfl));exact Qw Zv (.tmp 6) rfl b2 0 e0 (Qf j) rfl (hM.at 1 _ rfl).range ⟨_,rfl,Qe rfl,Le.Qj [7,9,13,10,4,6] SO.loc (by omega) (by decide) hJ⟩
   | 3,ho=>
     obtain rfl:=Oj9 ho;have e0:=hout 9 (by kernel_rfl);replace e0:a'.eval (.tmp 9)=_:=e0.trans rfl;obtain⟨hM,-⟩:=hJ.1.1 (hnot 9 (by kernel_rfl));exact Ar.Zx (.tmp 9) rfl _ _ e0 (Qb (hM.at 4 _ rfl) 0 _ rfl) ⟨_,rfl,Qe rfl,Le.Qj [7,9,13,10,4,6] SO.loc (by omega) (by decide) hJ⟩
   | 4,ho=>
     obtain rfl:=Oj9 ho;have e0:a'.eval (.tmp 24)=Qd (Qf j):=by have h9:=hin 2 24 (by kernel_rfl) (by kernel_rfl);exact h9.1.trans (Qc _ h9.2 rfl)
     have e1:a'.eval (.tmp 25)= .int .i64 who:=by have h9:=hin 3 25 (by kernel_rfl) (by kernel_rfl);exact h9.1.trans (Qc _ h9.2 rfl)
     refine Qq 64 _ _ rfl #[Qd (Qf j),.int .i64 who] (by simp [e0,e1]) (cg64 _ _) ((node64 j who w2).mono ?_);rintro e w3 ⟨q,rfl,hq1,hk3⟩;obtain⟨hJ1,hJ2⟩:=hJ;have hn9:l.getD 9 false=false:=hnot 9 (by kernel_rfl);have hn7:l.getD 7 false=false:=hnot 7 (by kernel_rfl);have hn10:l.getD 10 false=false:=hnot 10 (by kernel_rfl);obtain⟨hq,-,-⟩:=hJ2 hn9;exact⟨_,rfl,_,rfl,QA rfl,Le.QJ (by omega) ⟨⟨fun _=>⟨(hJ1.1 hn9).1.step hk3,(fun h=>by have h:l.getD 7 false=true:=h;rw [show l.getD 7 false=false from hnot 7 (by kernel_rfl)] at h;cases h)⟩,(fun h=>by have h:l.getD 9 false=true:=h;rw [show l.getD 9 false=false from hnot 9 (by kernel_rfl)] at h;cases h),(fun h=>by have h:l.getD 10 false=true:=h;rw [show l.getD 10 false=false from hnot 10 (by kernel_rfl)] at h;cases h)⟩,fun _=>⟨hq.mono hk3,fun _=>hq1,(fun h=>by have h:l.getD 6 false=true:=h;rw [show l.getD 6 false=false from hnot 6 (by kernel_rfl)] at h;cases h)⟩⟩⟩
   | 5,ho=>
     obtain rfl:=Oj9 ho;have e0:=hout 14 (by kernel_rfl);replace e0:a'.eval (.tmp 14)=_:=e0.trans rfl;exact wp_move (.tmp 14) rfl _ e0 ⟨_,rfl,Qe rfl,Le.Qj [7,9,13,10,4,6] SO.loc (by omega) (by decide) hJ⟩
   | 6,ho=>
     obtain rfl:=Oj9 ho;have e0:a'.eval (.tmp 26)=vs 4:=(hin 4 26 (by kernel_rfl) (by kernel_rfl)).1;have e1:a'.eval (.tmp 27)=fnV fq csq:=by have h9:=hin 5 27 (by kernel_rfl) (by kernel_rfl);exact h9.1.trans (Qc _ h9.2 rfl)
     obtain⟨hJ1,hJ2⟩:=hJ;have hn9:l.getD 9 false=false:=hnot 9 (by kernel_rfl);have h4:l.getD 4 false=true:=hdep 4 (by kernel_rfl);obtain⟨hq,hq4,-⟩:=hJ2 hn9;have hk3:Kept [] w2 (w2.alloc (.cells [vs 4,fnV fq csq].toArray 92)):=(Kept.refl _ _).alloc _;exact o_bs2 (.tmp 26) (.tmp 27) rfl _ _ e0 e1 (hq4 h4) hq ⟨_,rfl,QA rfl,Le.QJ (by omega) ⟨⟨fun _=>⟨(hJ1.1 hn9).1.step hk3,(fun h=>by have h:l.getD 7 false=true:=h;rw [show l.getD 7 false=false from hnot 7 (by kernel_rfl)] at h;cases h)⟩,(fun h=>by have h:l.getD 9 false=true:=h;rw [show l.getD 9 false=false from hnot 9 (by kernel_rfl)] at h;cases h),(fun h=>by have h:l.getD 10 false=true:=h;rw [show l.getD 10 false=false from hnot 10 (by kernel_rfl)] at h;cases h)⟩,fun _=>⟨hq.mono hk3,(fun _=>(hq4 h4).mono hk3),fun _=>⟨h4,w2.heap.size,rfl,Rg.of (Blk.new w2 92 _)⟩⟩⟩⟩
   | 7,ho=>
     obtain rfl:=Oj9 ho;have e0:a'.eval (.tmp 23)=Qd (QK ao j n ep):=by have h9:=hin 1 23 (by kernel_rfl) (by kernel_rfl);exact h9.1.trans (Qc _ h9.2 rfl)
     have e1:a'.eval (.tmp 28)=vs 6:=(hin 6 28 (by kernel_rfl) (by kernel_rfl)).1;obtain⟨hJ1,hJ2⟩:=hJ;have hn9:l.getD 9 false=false:=hnot 9 (by kernel_rfl);have h6:l.getD 6 false=true:=hdep 6 (by kernel_rfl);obtain⟨hM,-⟩:=hJ1.1 hn9;obtain⟨hq,hq4,hq6⟩:=hJ2 hn9;obtain⟨h4,p,hp,hR⟩:=hq6 h6;refine Qq 75 _ _ rfl #[Qd (QK ao j n ep),.slice (some ⟨p,0,none⟩) 2 2] (by simp only [List.map_toArray,List.map_cons,List.map_nil,e0,e1];rw [hp]) (cg75 _ _) ((may75 ao o j n ep [(vs 4,qa (Qt j who) 2),(fnV fq csq,qa (decide (who≠n)) 2)] (.slice (some ⟨p,0,none⟩) 2 2) w2 (Nat.lt_of_lt_of_le (Qa HW0) hM.kept.size) ((Qa HD).kept hM.kept) (.inr ⟨p,2,rfl,hR,fun q hq'=>by rcases List.mem_cons.1 hq' with e9 | hq9;rw [e9];exact hq4 h4;rw [List.mem_singleton.1 hq9];exact hq⟩) (by simp)).mono ?_);rintro e w3 ⟨v,L,rfl,hQ,hs,hk3⟩;exact⟨_,rfl,_,rfl,QA rfl,Le.QJ (by omega) ⟨SJ.ask hJ1 hn9 hk3 (by decide) (by decide) hQ hs,fun _=>⟨hq.mono hk3,(fun _=>(hq4 h4).mono hk3),fun _=>⟨h4,p,hp,hR.kept hk3 (by simp)⟩⟩⟩⟩
   | 8,ho=>
     obtain rfl:=Oj9 ho;have e0:=hout 7 (by kernel_rfl);replace e0:a'.eval (.tmp 7)=_:=e0.trans rfl;have e1:=hout 8 (by kernel_rfl);replace e1:a'.eval (.tmp 8)=_:=e1.trans rfl;have e2:=hout 9 (by kernel_rfl);replace e2:a'.eval (.tmp 9)=_:=e2.trans rfl;have e3:=hout 5 (by kernel_rfl);replace e3:a'.eval (.tmp 5)=_:=e3.trans rfl;have f0:a'.eval (.tmp 7)=P0 b3:=e0;have f1:a'.eval (.tmp 8)=P0 b4:=e1;have f2:a'.eval (.tmp 9)=P0 b5:=e2;have f3:a'.eval (.tmp 5)=P0 b1:=e3;exact o_mkf 80 _ rfl #[P0 b3,P0 b4,P0 b5,P0 b1] (by simp [f0,f1,f2,f3]) ⟨_,rfl,Qe rfl,Le.Qj [7,9,13,10,4,6] SO.loc (by omega) (by decide) hJ⟩
   | 9,ho=>
     obtain rfl:=Oj9 ho;have e0:a'.eval (.tmp 22)=Qd (QK ao j n ep):=by have h9:=hin 0 22 (by kernel_rfl) (by kernel_rfl);exact h9.1.trans (Qc _ h9.2 rfl)
     have e1:a'.eval (.tmp 29)=vs 7:=(hin 7 29 (by kernel_rfl) (by kernel_rfl)).1;have e2:a'.eval (.tmp 30)=fnV 80 #[P0 b3,P0 b4,P0 b5,P0 b1]:=by have h9:=hin 8 30 (by kernel_rfl) (by kernel_rfl);exact h9.1.trans (Qc _ h9.2 rfl)
     obtain⟨hJ1,-⟩:=hJ;obtain⟨hM,hq⟩:=hJ1.1 hlf;obtain⟨base,L,hQ,hL⟩:=hq (hdep 7 (by kernel_rfl));refine Qq 74 _ _ rfl #[Qd (QK ao j n ep),vs 7,fnV 80 #[P0 b3,P0 b4,P0 b5,P0 b1]] (by simp [e0,e1,e2]) (cg74 _ _) ((Qa HC w2 (vs 7) base L b3 b4 b5 b1 hM.kept hQ hL (hM.at 2 _ rfl) (hM.at 3 _ rfl) (hM.at 4 _ rfl) (hM.at 0 _ rfl)).mono ?_);rintro e w3 ⟨rfl,kd,hp⟩;exact⟨_,rfl,_,rfl,Qe rfl,Le.QJ (by omega) ⟨SJ.chg hJ1 hlf (hnot 13 (by kernel_rfl)) (by decide) kd hp (Qa HY),fun h=>by cases h⟩⟩
   | 10,ho=>
     obtain rfl:=Oj9 ho;have e0:a'.eval (.tmp 31)= .tuple #[Qd (Vi.vwC z.1),.bool z.2,.int .i64 x]:=by have h9:=hin 9 31 (by kernel_rfl) (by kernel_rfl);exact h9.1.trans (Qc _ h9.2 rfl)
     have hc9:l.getD 9 false=true:=hdep 9 (by kernel_rfl);exact o_ext (.tmp 31) 0 rfl _ _ e0 rfl ⟨_,rfl,Qe rfl,Le.QJ (by omega) ⟨SJ.ext hJ.1 hc9 (by decide) (by decide),fun h=>by have h:l.getD 9 false=false:=h;rw [hc9] at h;cases h⟩⟩
   | 11,ho=>
     obtain rfl:=Oj9 ho;have e0:a'.eval (.tmp 31)= .tuple #[Qd (Vi.vwC z.1),.bool z.2,.int .i64 x]:=by have h9:=hin 9 31 (by kernel_rfl) (by kernel_rfl);exact h9.1.trans (Qc _ h9.2 rfl)
     exact o_ext (.tmp 31) 1 rfl _ _ e0 rfl ⟨_,rfl,Qe rfl,Le.Qj [7,9,13,10,4,6] SO.loc (by omega) (by decide) hJ⟩
   | 12,ho=>
     obtain rfl:=Oj9 ho;have e0:a'.eval (.tmp 31)= .tuple #[Qd (Vi.vwC z.1),.bool z.2,.int .i64 x]:=by have h9:=hin 9 31 (by kernel_rfl) (by kernel_rfl);exact h9.1.trans (Qc _ h9.2 rfl)
     exact o_ext (.tmp 31) 2 rfl _ _ e0 rfl ⟨_,rfl,Qe rfl,Le.Qj [7,9,13,10,4,6] SO.loc (by omega) (by decide) hJ⟩
   | 13,ho=>
     obtain rfl:=Oj9 ho;have e0:=hout 10 (by kernel_rfl);replace e0:a'.eval (.tmp 10)=_:=e0.trans rfl;have e1:a'.eval (.tmp 32)=Qd (Vi.vwC z.1):=by have h9:=hin 10 32 (by kernel_rfl) (by kernel_rfl);exact h9.1.trans (Qc _ h9.2 rfl)
     have hc9:l.getD 9 false=true:=hJ.1.2.2 (hdep 10 (by kernel_rfl));obtain⟨hp,hm,-⟩:=hJ.1.2.1 hc9;have hM:=hm hlf;exact Zh Vi.Qn (.tmp 10) (.tmp 32) rfl rfl b6 0 (Vi.vwC z.1) e0 e1 (Qa HLZ) (Vi.Ql _) ((hM.at 5 _ rfl).there (show 0+19≤(Vi.vwC Vi.zv).length by decide)) ⟨undef,rfl,QA rfl,Le.QJ (by omega) ⟨SJ.lay hc9 (by decide) (Qa HP w2 _ [b6] (by simpa using Qa HNZ) hp ((Kept.refl [b6] _).setCells _ _ (by simp))) (hM.sets 5 rfl (Vi.vwC z.1) (by rw [Qa HLZ];rfl)),fun h=>by have h:l.getD 9 false=false:=h;rw [hc9] at h;cases h⟩⟩
   | 14,ho=>
     obtain rfl:=Oj9 ho;have e0:a'.eval (.tmp 33)= .bool z.2:=by have h9:=hin 11 33 (by kernel_rfl) (by kernel_rfl);exact h9.1.trans (Qc _ h9.2 rfl)
     exact QI (.tmp 33) rfl _ e0 ⟨_,rfl,Qe rfl,Le.Qj [7,9,13,10,4,6] SO.loc (by omega) (by decide) hJ⟩
   | 15,ho=>
     obtain rfl:=Oj9 ho;have e0:a'.eval (.tmp 34)= .int .i64 x:=by have h9:=hin 12 34 (by kernel_rfl) (by kernel_rfl);exact h9.1.trans (Qc _ h9.2 rfl)
     exact QI (.tmp 34) rfl _ e0 ⟨_,rfl,Qe rfl,Le.Qj [7,9,13,10,4,6] SO.loc (by omega) (by decide) hJ⟩
 intro l_ vs4 V4 hl hJ htold;have t0:vs4 0=Qd (QK ao j n ep):=Qc _ (htold 0 (by decide)) rfl;have t1:vs4 1=Qd (QK ao j n ep):=Qc _ (htold 1 (by decide)) rfl;have t2:vs4 2=Qd (Qf j):=Qc _ (htold 2 (by decide)) rfl;have t3:vs4 3= .int .i64 who:=Qc _ (htold 3 (by decide)) rfl;have t5:vs4 5=fnV fq csq:=Qc _ (htold 5 (by decide)) rfl;have t8:vs4 8=fnV 80 #[P0 b3,P0 b4,P0 b5,P0 b1]:=Qc _ (htold 8 (by decide)) rfl;have t9:vs4 9= .tuple #[Qd (Vi.vwC z.1),.bool z.2,.int .i64 x]:=Qc _ (htold 9 (by decide)) rfl;have t10:vs4 10=Qd (Vi.vwC z.1):=Qc _ (htold 10 (by decide)) rfl;have t11:vs4 11= .bool z.2:=Qc _ (htold 11 (by decide)) rfl;have t12:vs4 12= .int .i64 x:=Qc _ (htold 12 (by decide)) rfl;have t14:vs4 14= .bool z.2:=Qc _ (htold 14 (by decide)) rfl;have t15:vs4 15= .int .i64 x:=Qc _ (htold 15 (by decide)) rfl;rw [show (List.range 16).map vs4= [vs4 0,vs4 1,vs4 2,vs4 3,vs4 4,vs4 5,vs4 6,vs4 7,vs4 8,vs4 9,vs4 10,vs4 11,vs4 12,vs4 13,vs4 14,vs4 15] from rfl];simp only [t0,t1,t2,t3,t5,t8,t9,t10,t11,t12,t14,t15,Qz,Act.put,List.setIfInBounds_toArray,List.set_cons_succ,List.set_cons_zero];clear t0 t1 t2 t3 t5 t8 t9 t10 t11 t12 t14 t15 htold;obtain⟨hp,-,hE⟩:=hJ.1.2.1 (hl 9 (by decide));have M9:=hide (hE (hl 13 (by decide)));have HPE:=hide hp;generalize vs4 7=u7;generalize vs4 4=u4;generalize vs4 6=u6;clear hJ hl hE hp M;go_wp2_with fail
 refine bodyPost_ret (res33 _ b6 _ _ _ _ rfl rfl rfl (Qa HLZ) ((Qa M9).at 5 _ rfl)) rfl ?_;exact⟨rfl,(Qa M9).kept,Qa HPE⟩
def mOut (D:Dv.Dev) (j:Job) (n ep who:Int):(Vi.Vw×Bool)×Int×Dv.Dev:=mcall D j n ep [qa (Qt j who) 2,qa (decide (who≠n)) 2] (mout D (oV D).1 n ep who)
theorem out33 (b g:Nat) (D:Dv.Dev) (j:Job) (n ep who:Int) (w:World) (h:Dv.Dv w b g D) (hF:Vi.First w):
  Calls Tryz.prog 33 #[P0 b,Qd (Qf j),.int .i64 n,.int .i64 ep,.int .i64 who] w fun e w'=>e= .returned (.tuple #[Qd (Vi.vwC (mOut D j n ep who).1.1),.bool (mOut D j n ep who).1.2,.int .i64 (mOut D j n ep who).2.1])∧Kept [b,g] w w'∧Dv.Dv w' b g (mOut D j n ep who).2.2:=by
 have hlt:=h.lt;have hok:=mout_ok (D:=D) (oV_ok h) n ep who;refine outW (some ⟨b,0,none⟩) (some D) j n ep who w hF.lt ⟨b,g,rfl,h⟩ [b,g] (mOut D j n ep who).1 (mOut D j n ep who).2.1 (fun V=>Dv.Dv V b g (mOut D j n ep who).2.2) (by simp;omega) (dv_stay hlt) (mcall_len h _ _ _ _ _ hok.len) ?_;intro W v base L c1 c2 c3 c4 hW hL hs C1 C2 C3 C4;refine chg_dev b g D j n ep [qa (Qt j who) 2,qa (decide (who≠n)) 2] (mout D (oV D).1 n ep who) v 80 _ W base L hL hs (by simp) (h.kept hW (by simp) (by simp)) (hF.kept hW) hok ent80 ?_;intro _ _ V hV;have hwV:=hW.trans hV;exact do80 c1 c2 c3 c4 b g D (oV D).1 n ep who V (hF.kept hwV) (oV_ok h) (C1.kept hV (by simp)) (C2.kept hV (by simp)) (C3.kept hV (by simp)) (C4.kept hV (by simp)) (h.kept hwV (by simp) (by simp))
open Go.RowKit
open Le (Mm Qh Qo)
theorem fold_set (pre:List Value):∀(ys mid:List Value) (i:Nat) (done:List Value),mid.length=ys.length→done.length=i→(ys.zipIdx i).foldl (fun cs x=>cs.setIfInBounds (pre.length+x.snd) x.fst) (pre++done++mid).toArray=(pre++done++ys).toArray:=by
 intro ys
 induction ys with
 | nil=>
  intro mid i done hm _;obtain rfl:mid= []:=List.eq_nil_of_length_eq_zero hm;rfl
 | cons y ys ih=>
  intro mid i done hm hd;cases mid with
  | nil=>simp at hm
  | cons m mid=>
   rw [List.zipIdx_cons,List.foldl_cons];have e:(pre++done++m::mid).toArray.setIfInBounds (pre.length+i) y=(pre++(done++ [y])++mid).toArray:=by
    rw [List.setIfInBounds_toArray,List.append_assoc,List.set_append_right _ _ (by omega),Nat.add_sub_cancel_left,← hd,List.set_append_right _ _ (Nat.le_refl _),Nat.sub_self];simp
   simp only [e];rw [ih mid (i+1) (done++ [y]) (by simpa using hm) (by simp [hd])];simp
theorem Tryz.sl60:Tryz.prog.underlying 60=some (.slice 59):=by kernel_rfl
theorem Tryz.info59z:(Tryz.prog.info? 59).map (fun i=>(i.zero,i.size,i.bytes))=some (some (.agg ((List.replicate 64 (Value.int .u8 0)).toArray)),64,64):=by kernel_rfl
theorem fillS (arr:Array Value) (ha:arr.size=64) (vs:List Value) (h:vs.length=64):Instr.fill (fun i=>some (i*64,64)) arr [(0,Qd vs)]=some vs.toArray:=by
 have hf:=fold_set [] vs arr.toList 0 [] (by rw [Array.length_toList,ha,h]) rfl;have hc:(Value.agg vs.toArray).cells=vs.toArray:=rfl;simp [Instr.fill,Qd,hc,h,ha];simpa using hf
theorem bsS (w:World) (vs:List Value) (h:vs.length=64):(Instr.buildSlice 60 1 #[(0,Qd vs)]).run Tryz.prog w= .ok (.slice (some ⟨w.heap.size,0,none⟩) 1 1) (w.alloc (.cells vs.toArray 59)):=by
 obtain⟨i,hi,hz0,hz1,_⟩:=info_parts Tryz.info59z;refine run_buildSlice (P:=Tryz.prog) w 60 59 1 #[(0,Qd vs)] vs.toArray i _ Tryz.sl60 hi hz0 (by rw [hz1];decide) (by rw [hz1];decide) ?_;rw [hz1];exact fillS _ (by simp) vs h
theorem wpBsS {ops:Array Oper} {rest:List Oper} {op:Oper} {a:Act} {w:World} {Q:Exit→Act→World→Prop} (hgd:op.guard=none) (x:Operand) (ho:op.op= .buildSlice 60 1 #[(0,x)]) (vs:List Value) (hl:vs.length=64) (hx:a.eval x=Qd vs)
  (h:∀W b,b=w.heap.size→Blk W b 59 vs→Kept [] w W→wpList Tryz.prog ops Q rest (a.put op.dst (.slice (some ⟨b,0,none⟩) 1 1)) W):wpList Tryz.prog ops Q (op::rest) a w:=
 wpList_plain hgd fun K hK=>by
  unfold Oper.wp execOp;simp only [ho,List.map_toArray,List.map_cons,List.map_nil,hx,Sem.run_bind,bsS w vs hl,Result.andThen_ok];exact hK _ _ (h _ _ rfl (Blk.new w 59 vs) ((Kept.refl _ _).alloc _))
theorem secs_one {W:World} {p:Nat} {X:List Int} (hB:Blk W p 59 (u8s X)) (hX:Dv.Sec X):Dv.Secs W (some ⟨p,0,none⟩) 1 1 [X]:=by
 refine⟨rfl,fun s hs=> ?_,by omega,fun _=>⟨p,0,rfl,fun i hi=> ?_⟩⟩
 · simp only [List.mem_cons,List.not_mem_nil,or_false] at hs;subst hs;exact hX
 · match i,hi with
   | 0,_=>
    refine hB.rangeIn _ (fun j hj=> ?_);simp
theorem putL_sec (l:Le.Le):Dv.Sec (Le.putL l).1:=by
 refine⟨Le.putL_len l,?_⟩;have hz:∀n,∀x∈Le.zs n,0≤x∧x<256:=fun n x hx=>by simp [Le.zs] at hx;omega
 unfold Le.putL;split
 · exact hz 64
 · split
   · exact hz 64
   · intro x hx;have hx:x∈Le.QR l:=hx;unfold Le.QR at hx;rcases List.mem_append.1 hx with hx | hx
     · rcases List.mem_append.1 hx with hx | hx
       · rcases List.mem_append.1 hx with hx | hx
         · rcases List.mem_append.1 hx with hx | hx
           · simp at hx;omega
           · exact Le.be_byte _ _ x hx
         · exact Le.be_byte _ _ x hx
       · exact Le.be_byte _ _ x hx
     · exact hz _ x hx
theorem ent69:Ent 69:=fun _ _=>by kernel_rfl
theorem ent71:Ent 71:=fun _ _=>by kernel_rfl
theorem do69 (c0 c1:Nat) (l:Le.Le) (s:List Int) (w:World) (hs:Dv.Sec s) (C0:Blk w c0 73 l.C) (C1:Blk w c1 59 (u8s s)):Calls Tryz.prog 69 #[P0 c0,P0 c1] w fun r w'=>r= .returned (.int .i64 (Le.putL l).2)∧Blk w' c1 59 (u8s (Le.putL l).1)∧Kept [c1] w w':=by
 have PO:=hide (Le.put8 l w);have hl:=sec_len (putL_sec l);have HS:=hide (sec_len hs);have HC0:=hide C0;obtain⟨⟨u,uc⟩,hu⟩:∃r,Le.putL l=r:=⟨_,rfl⟩;rw [hu] at PO hl⊢;have HU:=hide hl;have M:Hid (Mm [c1] w w [(c1,59,u8s s)]):=hide (Le.Mm.one C1);clear C0 C1 hs hl hu;go_enter Tryz.func69,Tryz.ntmps69
 go_wp2_with (first |(refine Qg Le.QC rfl (.tmp 0) rfl c0 0 rfl l.C rfl (Qa HC0).range ?_;refine Stp.go ?_))
 constructor
 go_wp2_with (first |(go_at_call 70;refine(Qa PO).mono ?_;rintro e W1 ⟨rfl,K1⟩;replace M:=hide ((Qa M).step K1);clear K1;refine Stp.go ?_))
 constructor
 go_wp2_with (first |(refine Qh Vi.Zc rfl (.tmp 1) (.tmp 6) rfl rfl c1 0 (u8s u) rfl rfl (Qa HU) (QU _) (Qa M) rfl (Qa HS) ?_;intro W2 N2;replace M:Hid (Mm [c1] w W2 [(c1,59,u8s u)]):=hide N2;clear N2;refine Stp.go ?_))
 constructor
 go_wp2_with fail
 go_ret
 exact⟨rfl,(Qa M).at 0 _ rfl,(Qa M).kept⟩
theorem do71 (c0 c1 c2 c3 c4 b g:Nat) (D:Dv.Dev) (j:Job) (k m:Nat) (hm:m=1+k) (l:Le.Le) (s:List Int) (w:World) (hs:Dv.Sec s) (hj:j.may=true) (hk:k<8) (C0:Blk w c0 23 (Qf j)) (C1:Blk w c1 3 [.int .i64 (k:Nat)]) (C2:Blk w c2 32 [P0 b]) (C3:Blk w c3 73 l.C) (C4:Blk w c4 59 (u8s s)) (h:Dv.Dv w b g D):Calls Tryz.prog 71 #[P0 c0,P0 c1,P0 c2,P0 c3,P0 c4] w fun r w'=>r= .returned (.int .i64 (D.write (k:Nat) l.ep (m:Nat) [s]).1)∧Dv.Dv w' b g (D.write (k:Nat) l.ep (m:Nat) [s]).2∧Kept [b,g] w w':=by
 have PA:∀W,Hid (Calls Tryz.prog 72 #[Qd (Qf j),.int .i64 k] W fun e w'=>e= .returned (.tuple #[.int .i64 (m:Nat),.int .i64 0])∧Kept [] W w'):=fun W=>hide (by
  have:=Ar.lease18 j k W;rw [show j.lease k=((m:Int),0) by unfold Ar.Job.lease;rw [if_pos (by rw [hj];simp [Ar.below];omega)];rw [hm];simp] at this;exact this)
 have PW:∀W b5,Mm [] w W [(b5,59,u8s s)]→Hid (Calls Tryz.prog 73 #[P0 b,.int .i64 k,.int .i64 l.ep,.int .i64 (m:Nat),.slice (some ⟨b5,0,none⟩) 1 1] W fun e w'=>e= .returned (.int .i64 (D.write (k:Nat) l.ep (m:Nat) [s]).1)∧Dv.Dv w' b g (D.write (k:Nat) l.ep (m:Nat) [s]).2∧Kept [b,g] W w'):=fun W b5 hM=>hide (Dv.write22 b g D k l.ep m (some ⟨b5,0,none⟩) 1 1 [s] W (h.kept hM.kept (by simp) (by simp)) (by omega) (by omega) (secs_one (hM.at 0 _ rfl) hs) (fun q off e=>by
  injection e with e;injection e with e _;subst e;have h1:=mm_new hM (b5,59,u8s s) (by simp);have h2:=h.lt;simp only at h1;simp;omega))
 have HC0:=hide C0;have HC1:=hide C1;have HC2:=hide C2;have HC3:=hide C3;have HC4:=hide C4;have HS:=hide (sec_len hs);have q1:=Qb C1 0 _ rfl;have HLT:=hide h.lt;clear C0 C1 C2 C3 C4 hs hj hk h hm;have M:Hid (Mm [] w w []):=hide Mm.init;go_enter Tryz.func71,Tryz.ntmps71
 go_wp2_with (first |(refine Qg Zv rfl (.tmp 0) rfl c0 0 rfl (Qf j) rfl (Qa HC0).range ?_;refine Stp.go ?_))
 constructor
 go_wp2_with (first |(go_at_call 72;refine(Qa (PA _)).mono ?_;rintro e W1 ⟨rfl,K1⟩;replace M:=hide ((Qa M).step K1);clear K1;clear q1;have q1:=Qb ((Qa HC1).kept (Qa M).kept (by simp)) 0 _ rfl;have q2:=Qb ((Qa HC2).kept (Qa M).kept (by simp)) 0 _ rfl;have q3:=Qb ((Qa HC3).kept (Qa M).kept (by simp)) 0 _ rfl;refine Stp.go ?_))
 constructor
 go_wp2_with (first |(refine Qg Vi.Zc rfl (.tmp 4) rfl c4 0 rfl (u8s s) (Qa HS) ((Qa HC4).kept (Qa M).kept (by simp)).range ?_;refine Stp.go ?_))
 constructor
 go_wp2_with (first |(refine wpBsS rfl (.tmp 19) rfl (u8s s) (Qa HS) rfl ?_;intro W5 b5 e5 B5 K5;replace M:=hide ((Qa M).new e5 B5 K5);clear e5 B5 K5;refine Stp.go ?_))
 constructor
 clear q1 q2 q3;go_wp2_with (first |(go_at_call 73;refine(Qa (PW _ b5 (Qa M))).mono ?_;rintro e V ⟨rfl,hd,kd⟩;have HD:=hide hd;have HK:=hide (((Qa M).kept.mono (by simp)).trans kd);clear hd kd))
 go_ret
 exact⟨rfl,Qa HD,Qa HK⟩
open Go.RowKit
open Le (Mm Qh Qo)
def sayQ (o:Option Dv.Dev) (j:Job) (n:Int) (l:Le.Le):List Int:= [qa (decide (0<Qs o)) 1,qa (Qu o j) 2,qa (Qt j n) 2,qa (Qx o n l.ep) 2]
def msay (D:Dv.Dev) (j:Job) (n:Int) (l:Le.Le):Int×Dv.Dev:=
 if first0 (sayQ (some D) j n l)=0 then (if (Le.putL l).2=0 then D.write n l.ep ((1+n.toNat:Nat):Int) [(Le.putL l).1] else ((Le.putL l).2,D)) else (first0 (sayQ (some D) j n l),D)
theorem say_yes {b g:Nat} {D:Dv.Dev} {w:World} {j:Job} {n:Int} {l:Le.Le} (h:Dv.Dv w b g D) (h0:first0 (sayQ (some D) j n l)=0):j.may=true∧0≤n∧n<j.n:=by
 unfold sayQ at h0;obtain⟨q1,h1⟩:=QS h0;obtain⟨q2,h1⟩:=QS h1;obtain⟨q3,-⟩:=QS h1;obtain⟨b',g',D',e,-,-,hm,-,-⟩:=fits_dev (o:=some D) (p:=P0 b) ⟨b,g,rfl,h⟩ q1 q2;have q3:=qa_zero (by decide) q3;simp only [Qt,Bool.and_eq_true,decide_eq_true_eq] at q3;exact⟨hm,q3.1,q3.2⟩
theorem told31 (bq c4 c5 c6 c7 c9 b g:Nat) (D:Dv.Dev) (j:Job) (n:Int) (l:Le.Le) (L:List (Value×Int)) (W0:World) (hL4:L.length=4) (hs:L.map Prod.snd=sayQ (some D) j n l) (hq:∀p∈L,ZP W0 p.1 p.2) (BQ:Rg W0 bq (L.map Prod.fst++ [fnV 69 #[P0 c7,P0 c9],fnV 71 #[P0 c5,P0 c6,P0 c4,P0 c7,P0 c9]])) (TQ:∃vs,Blk W0 bq 92 vs)
   (C4:Blk W0 c4 32 [P0 b]) (C5:Blk W0 c5 23 (Qf j)) (C6:Blk W0 c6 3 [.int .i64 n]) (C7:Blk W0 c7 73 l.C) (C9:Blk W0 c9 59 (u8s (Vi.zs 64))) (h:Dv.Dv W0 b g D) (h9:c9∉ [b,g]):
   Calls Tryz.prog 67 #[.slice (some ⟨bq,0,none⟩) 6 6] W0 fun e W'=>∃x,e= .returned (.int .i64 x)∧Kept [c9,b,g] W0 W'∧Dv.Dv W' b g (msay D j n l).2∧x=(msay D j n l).1:=by
 obtain⟨tvs,TQ⟩:=TQ;have mq:=blk_ne TQ h (by decide) (by decide);have tq:=Blk.apart TQ C9 (by decide);have t4:=Blk.apart C4 C9 (by decide);have t5:=Blk.apart C5 C9 (by decide);have t6:=Blk.apart C6 C9 (by decide);have t7:=Blk.apart C7 C9 (by decide);have hb9:b∉ [c9]:=fun e=>h9 (by simp at e;subst e;simp);have hg9:g∉ [c9]:=fun e=>h9 (by simp at e;subst e;simp);obtain⟨qs,e,hqs⟩:=ques_list L hq;have hql:qs.length=4:=by
   have:=congrArg List.length e;simp at this;omega
 rw [hs] at hqs;refine told67 bq 6 6 (qs++ [(69,#[P0 c7,P0 c9]),(71,#[P0 c5,P0 c6,P0 c4,P0 c7,P0 c9])]) W0 (by simp [hql]) (by omega)
   (fun k W=>if k≤4 then (Kept [] W0 W∧∀y∈(sayQ (some D) j n l).take k,y=0) else if k=5 then (Kept [c9] W0 W∧Blk W c9 59 (u8s (Le.putL l).1)∧first0 (sayQ (some D) j n l)=0∧(Le.putL l).2=0) else (Kept [c9,b,g] W0 W∧Dv.Dv W b g (msay D j n l).2∧(msay D j n l).1=0))
   (fun x W'=>Kept [c9,b,g] W0 W'∧Dv.Dv W' b g (msay D j n l).2∧x=(msay D j n l).1) (by rw [if_pos (by omega)];exact⟨Kept.refl _ _,by simp⟩) ?_ ?_ ?_
 · intro k W hI;have hR:Rg W0 bq ((qs++ [(69,#[P0 c7,P0 c9]),(71,#[P0 c5,P0 c6,P0 c4,P0 c7,P0 c9])]).map (fun q:FuncId×Array Value=>fnV q.1 q.2)):=by
     rw [List.map_append,← e];exact BQ
   by_cases h4:k≤4
   · rw [if_pos h4] at hI;exact hR.kept hI.1 (by simp)
   · rw [if_neg h4] at hI;by_cases h5:k=5
     · rw [if_pos h5] at hI;exact hR.kept hI.1 (by simpa using tq)
     · rw [if_neg h5] at hI;exact hR.kept hI.1 (fun e=>by simp at e mq;rcases e with e | e | e;exact tq e;exact mq.1 e;exact mq.2 e)
 · intro k f cs W hk hI;by_cases h4:k<4
   · rw [if_pos (by omega)] at hI;rw [List.getElem?_append_left (by omega)] at hk;obtain⟨x,hx,hent,hcl⟩:=hqs k f cs hk;obtain⟨hW,h0⟩:=hI;refine⟨hent,(hcl W (K92.of hW)).mono ?_⟩;rintro e W' ⟨rfl,hk'⟩;refine⟨x,rfl,?_⟩;by_cases hz:x=0
     · refine .inl ⟨hz,?_⟩;rw [if_pos (by omega)];refine⟨hW.trans hk',fun y hy=> ?_⟩;rw [List.take_add_one,hx] at hy;rcases List.mem_append.1 hy with hy | hy
       · exact h0 y hy
       · simp at hy;omega
     · have hf:=first0_at _ k x h0 hx hz;have e:msay D j n l=(x,D):=by unfold msay;rw [hf,if_neg hz]
       have hk2:=hW.trans hk';exact .inr ⟨hz,hk2.mono (by simp),by rw [e];exact h.kept hk2 (by simp) (by simp),by rw [e]⟩
   · by_cases h44:k=4
     · subst h44;rw [if_pos (by omega)] at hI;rw [List.getElem?_append_right (by omega),hql] at hk;simp at hk;obtain⟨rfl,rfl⟩:=hk;obtain⟨hW,h0⟩:=hI;have hf:first0 (sayQ (some D) j n l)=0:=first0_all _ (fun y hy=>h0 y (by rw [List.take_of_length_le (by simp [sayQ])];exact hy));refine⟨ent69,(do69 c7 c9 l (Vi.zs 64) W ⟨(Vi.zs_byts 64).len,(Vi.zs_byts 64).byte⟩ (C7.kept hW (by simp)) (C9.kept hW (by simp))).mono ?_⟩;rintro e W' ⟨rfl,hb,hk'⟩;have hk2:Kept [c9] W0 W':=(hW.mono (by simp)).trans hk';refine⟨_,rfl,?_⟩;by_cases hp:(Le.putL l).2=0
       · refine .inl ⟨hp,?_⟩;rw [if_neg (by omega),if_pos (by omega)];exact⟨hk2,hb,hf,hp⟩
       · have e:msay D j n l=((Le.putL l).2,D):=by unfold msay;rw [if_pos hf,if_neg hp]
         exact .inr ⟨hp,hk2.mono (by simp),by rw [e];exact h.kept hk2 hb9 hg9,by rw [e]⟩
     · by_cases h55:k=5
       · subst h55;rw [if_neg (by omega),if_pos rfl] at hI;rw [List.getElem?_append_right (by omega),hql] at hk;simp at hk;obtain⟨rfl,rfl⟩:=hk;obtain⟨hW,hb,hf,hp⟩:=hI;obtain⟨hm,hn0,hn1⟩:=say_yes h hf;obtain⟨i,rfl⟩:=Int.eq_ofNat_of_zero_le hn0;have hj8:j.n≤8:=by
           have:=hm;simp only [Ar.Job.may,decide_eq_true_eq] at this;omega
         refine⟨ent71,(do71 c5 c6 c4 c7 c9 b g D j i (1+i) rfl l _ W (putL_sec l) hm (by omega) (C5.kept hW (by simpa using t5)) (C6.kept hW (by simpa using t6)) (C4.kept hW (by simpa using t4)) (C7.kept hW (by simpa using t7)) hb (h.kept hW hb9 hg9)).mono ?_⟩;rintro e W' ⟨rfl,hd,hk'⟩;have hk2:Kept [c9,b,g] W0 W':=(hW.mono (by simp)).trans (hk'.mono (by simp));have e:msay D j i l=D.write i l.ep ((1+i:Nat):Int) [(Le.putL l).1]:=by unfold msay;rw [if_pos hf,if_pos hp];rfl
         refine⟨_,rfl,?_⟩;by_cases hz:(D.write i l.ep ((1+i:Nat):Int) [(Le.putL l).1]).1=0
         · refine .inl ⟨hz,?_⟩;rw [if_neg (by omega),if_neg (by omega),e];exact⟨hk2,hd,hz⟩
         · exact .inr ⟨hz,hk2,by rw [e];exact hd,by rw [e]⟩
       · rw [List.getElem?_eq_none (by simp [hql];omega)] at hk;cases hk
 · intro W hI;rw [if_neg (by omega),if_neg (by omega)] at hI;exact⟨hI.1,hI.2.1,hI.2.2.symm⟩
open Go.RowKit
open Le (Mm Qh Qo)
theorem bs95_6 (w:World) (f0 f1 f2 f3 f4 f5:FuncId) (c0 c1 c2 c3 c4 c5:Array Value):(Instr.buildSlice 95 6 #[(0,fnV f0 c0),(1,fnV f1 c1),(2,fnV f2 c2),(3,fnV f3 c3),(4,fnV f4 c4),(5,fnV f5 c5)]).run Tryz.prog w= .ok (.slice (some ⟨w.heap.size,0,none⟩) 6 6) (w.alloc (.cells [fnV f0 c0,fnV f1 c1,fnV f2 c2,fnV f3 c3,fnV f4 c4,fnV f5 c5].toArray 92)):=by kernel_rfl
theorem o_bs6 {o:Oper} {a:Act} {w:World} {K:Act→World→Prop} {Q:Exit→Act→World→Prop} (x0 x1 x2 x3 x4 x5:Operand) (ho:o.op= .buildSlice 95 6 #[(0,x0),(1,x1),(2,x2),(3,x3),(4,x4),(5,x5)]) (u0 u1 u2 u3:Value) (f4 f5:FuncId) (d4 d5:Array Value) (h0:a.eval x0=u0) (h1:a.eval x1=u1) (h2:a.eval x2=u2) (h3:a.eval x3=u3) (h4:a.eval x4=fnV f4 d4) (h5:a.eval x5=fnV f5 d5)
  {y0 y1 y2 y3:Int} {w0 w1 w2 w3:World} (q0:ZP w0 u0 y0) (q1:ZP w1 u1 y1) (q2:ZP w2 u2 y2) (q3:ZP w3 u3 y3) (h:K (a.put o.dst (.slice (some ⟨w.heap.size,0,none⟩) 6 6)) (w.alloc (.cells [u0,u1,u2,u3,fnV f4 d4,fnV f5 d5].toArray 92))):o.wp Tryz.prog a w K Q:=by
 obtain⟨f0,c0,rfl,-⟩:=q0;obtain⟨f1,c1,rfl,-⟩:=q1;obtain⟨f2,c2,rfl,-⟩:=q2;obtain⟨f3,c3,rfl,-⟩:=q3;unfold Oper.wp execOp;simp only [ho,List.map_toArray,List.map_cons,List.map_nil,h0,h1,h2,h3,h4,h5,Sem.run_bind,bs95_6,Result.andThen_ok];exact h
@[reducible] def SY (w:World) (bs:List (Nat×Nat×List Value)) (R:World→Prop) (F:List Value) (qs:List (Nat×Int)) (d:Nat→Bool) (vs:Nat→Value) (W:World):Prop:=
 (d 16=false→Mm [] w W bs∧(∀q∈qs,d q.1=true→ZP W (vs q.1) q.2)∧(d 15=true→(∀q∈qs,d q.1=true)∧∃p,vs 15= .slice (some ⟨p,0,none⟩) 6 6∧Blk W p 92 ((qs.map fun q=>vs q.1)++F)))∧(d 16=true→R W)
section
variable {w:World} {bs:List (Nat×Nat×List Value)} {R:World→Prop} {F:List Value} {qs:List (Nat×Int)} {d:Nat→Bool} {vs:Nat→Value} {W W':World}
theorem SY.loc:∀d d' vs vs' W,(∀i∈16::15::qs.map Prod.fst,d i=d' i∧vs i=vs' i)→SY w bs R F qs d vs W→SY w bs R F qs d' vs' W:=by
 intro d d' vs vs' W H h;have ek:=H 16 (by simp);have es:=H 15 (by simp);have eq:∀q∈qs,d q.1=d' q.1∧vs q.1=vs' q.1:=fun q hq=>H q.1 (by simp;exact .inr (.inr ⟨q.2,hq⟩));have em:(qs.map fun q=>vs q.1)=qs.map fun q=>vs' q.1:=List.map_congr_left fun q hq=>(eq q hq).2;unfold SY at h⊢;rw [← ek.1,← es.1,← es.2,← em];refine⟨fun h0=> ?_,h.2⟩;obtain⟨h1,h2,h3⟩:=h.1 h0;refine⟨h1,fun q hq hd=> ?_,fun hs=> ?_⟩
 · rw [← (eq q hq).2];exact h2 q hq (by rw [(eq q hq).1];exact hd)
 · obtain⟨h4,h5⟩:=h3 hs;exact⟨fun q hq=>by rw [← (eq q hq).1];exact h4 q hq,h5⟩
theorem SY.ask (h:SY w bs R F qs d vs W) (hd:d 16=false) (hs:d 15=false) (hk:Kept [] W W') {i:Nat} {v:Value} {x:Int} (hq:ZP W' v x) (hik:16≠i) (his:15≠i) (hx:∀q∈qs,q.1=i→q.2=x):
   SY w bs R F qs (fun j=>if j=i then true else d j) (fun j=>if j=i then v else vs j) W':=by
 obtain⟨h1,h2,-⟩:=h.1 hd;refine⟨fun _=>⟨h1.step hk,fun q hq' hdq=> ?_,fun h9=> ?_⟩,fun h9=> ?_⟩
 · dsimp only at*;by_cases e:q.1=i
   · rw [if_pos e,hx q hq' e];exact hq
   · rw [if_neg e] at hdq⊢;exact(h2 q hq' hdq).mono hk
 · dsimp only at*;rw [if_neg his,hs] at h9;cases h9
 · dsimp only at*;rw [if_neg hik,hd] at h9;cases h9
theorem SY.row (h:SY w bs R F qs d vs W) (hd:d 16=false) (ha:∀q∈qs,d q.1=true) (hq:∀q∈qs,q.1≠15):
   SY w bs R F qs (fun j=>if j=15 then true else d j) (fun j=>if j=15 then .slice (some ⟨W.heap.size,0,none⟩) 6 6 else vs j) (W.alloc (.cells ((qs.map fun q=>vs q.1)++F).toArray 92)):=by
 obtain⟨h1,h2,-⟩:=h.1 hd;have hk:Kept [] W (W.alloc (.cells ((qs.map fun q=>vs q.1)++F).toArray 92)):=(Kept.refl _ _).alloc _;have em:(qs.map fun q=>(if q.1=15 then Value.slice (some ⟨W.heap.size,0,none⟩) 6 6 else vs q.1))=qs.map fun q=>vs q.1:=List.map_congr_left fun q hq'=>by rw [if_neg (hq q hq')]
 refine⟨fun _=>⟨h1.step hk,fun q hq' hdq=> ?_,fun _=>⟨fun q hq'=> ?_,W.heap.size,by dsimp only;rw [if_pos rfl],?_⟩⟩,fun h9=> ?_⟩
 · dsimp only at*;rw [if_neg (hq q hq')] at hdq⊢;exact(h2 q hq' hdq).mono hk
 · dsimp only at*;rw [if_neg (hq q hq')];exact ha q hq'
 · dsimp only at*;rw [em];exact Blk.new W 92 _
 · dsimp only at*;rw [if_neg (by decide),hd] at h9;cases h9
end
theorem cg67 (vs:Array Value) (w:World):(callFunc 67 vs).run Tryz.prog w= .ok (.enter 67 vs) w:=by kernel_rfl
theorem sayW (ao:Option Addr) (o:Option Dv.Dev) (j:Job) (n:Int) (lx:Le.Le) (w:World) (h:Dq w (.pointer ao) o) (Y:List Nat) (x:Int) (P:World→Prop)
   (hT:∀(W:World) (p b1 b2 b3 b4 b5:Nat) (L:List (Value×Int)),Mm [] w W [(b1,32,[.pointer ao]),(b2,23,Qf j),(b3,3,[.int .i64 n]),(b4,73,lx.C),(b5,59,u8s (Vi.zs 64))]→L.length=4→L.map Prod.snd=sayQ o j n lx→(∀q∈L,ZP W q.1 q.2)→Blk W p 92 (L.map Prod.fst++ [fnV 69 #[P0 b4,P0 b5],fnV 71 #[P0 b2,P0 b3,P0 b1,P0 b4,P0 b5]])→Calls Tryz.prog 67 #[.slice (some ⟨p,0,none⟩) 6 6] W fun e W'=>e= .returned (.int .i64 x)∧Kept (b5::Y) W W'∧P W'):
   Calls Tryz.prog 31 #[.pointer ao,Qd (Qf j),.int .i64 n,Qd lx.C] w fun e w'=>e= .returned (.int .i64 x)∧Kept Y w w'∧P w':=by
 have HT:=hide hT;have HD:=hide h;clear hT h;have M:Hid (Mm [] w w []):=hide Mm.init;go_enter Tryz.func31,Tryz.ntmps31
 go_wp2_with (first |(refine wpBoxP rfl (.tmp 0) rfl ao rfl ?_;intro W1 b1 e1 B1 K1;replace M:=hide ((Qa M).new e1 B1 K1);clear e1 B1 K1;refine Stp.go ?_))
 constructor
 go_wp2_with (first |(refine Qp rfl (.tmp 1) rfl (Qf j) rfl ?_;intro W2 b2 e2 B2 K2;replace M:=hide ((Qa M).new e2 B2 K2);clear e2 B2 K2;refine Stp.go ?_))
 constructor
 go_wp2_with (first |(refine wpBoxI rfl (.tmp 2) rfl n rfl ?_;intro W3 b3 e3 B3 K3;replace M:=hide ((Qa M).new e3 B3 K3);clear e3 B3 K3;refine Stp.go ?_))
 constructor
 go_wp2_with (first |(refine Qp rfl (.tmp 3) rfl lx.C rfl ?_;intro W4 b4 e4 B4 K4;replace M:=hide ((Qa M).new e4 B4 K4);clear e4 B4 K4;refine Stp.go ?_))
 constructor
 go_wp2_with (first |(refine Qv (u8s (Vi.zs 64)) Vi.ZI 9 rfl rfl rfl ?_;intro W5 b5 e5 B5 K5;replace M:=hide ((Qa M).new e5 B5 K5);clear e5 B5 K5;refine Stp.go ?_))
 constructor
 go_wp2_with fail
 have HN5:Hid (w.heap.size≤b5):=mm_new (Qa M) (b5,59,u8s (Vi.zs 64)) (by simp);refine wp_region_any mixed (QL 18 rfl (by kernel_rfl) [some (.pointer ao),none,some (.pointer ao),some (Qd (Qf j)),none,some (Qd (Qf j)),some (.int .i64 n),none,some (.pointer ao),some (.int .i64 n),some (.pointer (some ⟨b4,0,none⟩)),some (.int .i64 lx.ep),none,some (fnV 69 #[P0 b4,P0 b5]),some (fnV 71 #[P0 b2,P0 b3,P0 b1,P0 b4,P0 b5]),none,some (.int .i64 x),some (.int .i64 x)] rfl (by kernel_rfl) (fun l vs W=>(SY w [(b1,32,[.pointer ao]),(b2,23,Qf j),(b3,3,[.int .i64 n]),(b4,73,lx.C),(b5,59,u8s (Vi.zs 64))] (fun V=>Kept (b5::Y) w V∧P V) [fnV 69 #[P0 b4,P0 b5],fnV 71 #[P0 b2,P0 b3,P0 b1,P0 b4,P0 b5]] [(1,qa (decide (0<Qs o)) 1),(4,qa (Qu o j) 2),(7,qa (Qt j n) 2),(12,qa (Qx o n lx.ep) 2)]) (fun i=>l.getD i false) vs W) (⟨fun _=>⟨(Qa M).drew,(by simp),(fun h=>by cases h)⟩,(fun h=>by cases h)⟩) ?_ ?_)
 · intro ix o' hi ho a' w2 l vs hls hlf hJ hout hin hdep hnot
   match ix,ho with
   | 0,ho=>
     obtain rfl:=Oj9 ho;have e0:=hout 4 (by kernel_rfl);replace e0:a'.eval (.tmp 4)=_:=e0.trans rfl;obtain⟨hM,-,-⟩:=hJ.1 (hnot 16 (by kernel_rfl));exact Zz (.tmp 4) rfl _ _ e0 (Qb (hM.at 0 _ rfl) 0 _ rfl) ⟨_,rfl,Qe rfl,Le.Qj [16,15,1,4,7,12] (SY.loc (qs:= [(1,qa (decide (0<Qs o)) 1),(4,qa (Qu o j) 2),(7,qa (Qt j n) 2),(12,qa (Qx o n lx.ep) 2)])) (by omega) (by decide) hJ⟩
   | 1,ho=>
     obtain rfl:=Oj9 ho;have e0:a'.eval (.tmp 10)= .pointer ao:=by have h9:=hin 0 10 (by kernel_rfl) (by kernel_rfl);exact h9.1.trans (Qc _ h9.2 rfl)
     obtain⟨hM,-,-⟩:=hJ.1 (hnot 16 (by kernel_rfl));refine Qq 44 _ _ rfl #[.pointer ao] (by simp [e0]) (cg44 _ _) ((there44 (.pointer ao) o w2 ((Qa HD).kept hM.kept)).mono ?_);rintro e w3 ⟨q,rfl,hq1,hk3⟩;exact⟨_,rfl,_,rfl,QA rfl,Le.QJ (by omega) (SY.ask hJ (hnot 16 (by kernel_rfl)) (hnot 15 (by kernel_rfl)) hk3 hq1 (by decide) (by decide) (by simp))⟩
   | 2,ho=>
     obtain rfl:=Oj9 ho;have e0:=hout 4 (by kernel_rfl);replace e0:a'.eval (.tmp 4)=_:=e0.trans rfl;obtain⟨hM,-,-⟩:=hJ.1 (hnot 16 (by kernel_rfl));exact Zz (.tmp 4) rfl _ _ e0 (Qb (hM.at 0 _ rfl) 0 _ rfl) ⟨_,rfl,Qe rfl,Le.Qj [16,15,1,4,7,12] (SY.loc (qs:= [(1,qa (decide (0<Qs o)) 1),(4,qa (Qu o j) 2),(7,qa (Qt j n) 2),(12,qa (Qx o n lx.ep) 2)])) (by omega) (by decide) hJ⟩
   | 3,ho=>
     obtain rfl:=Oj9 ho;have e0:=hout 5 (by kernel_rfl);replace e0:a'.eval (.tmp 5)=_:=e0.trans rfl;obtain⟨hM,-,-⟩:=hJ.1 (hnot 16 (by kernel_rfl));exact Qw Zv (.tmp 5) rfl b2 0 e0 (Qf j) rfl (hM.at 1 _ rfl).range ⟨_,rfl,Qe rfl,Le.Qj [16,15,1,4,7,12] (SY.loc (qs:= [(1,qa (decide (0<Qs o)) 1),(4,qa (Qu o j) 2),(7,qa (Qt j n) 2),(12,qa (Qx o n lx.ep) 2)])) (by omega) (by decide) hJ⟩
   | 4,ho=>
     obtain rfl:=Oj9 ho;have e0:a'.eval (.tmp 12)= .pointer ao:=by have h9:=hin 2 12 (by kernel_rfl) (by kernel_rfl);exact h9.1.trans (Qc _ h9.2 rfl)
     have e1:a'.eval (.tmp 13)=Qd (Qf j):=by have h9:=hin 3 13 (by kernel_rfl) (by kernel_rfl);exact h9.1.trans (Qc _ h9.2 rfl)
     obtain⟨hM,-,-⟩:=hJ.1 (hnot 16 (by kernel_rfl));refine Qq 45 _ _ rfl #[.pointer ao,Qd (Qf j)] (by simp [e0,e1]) (cg45 _ _) ((fits45 (.pointer ao) o j w2 ((Qa HD).kept hM.kept)).mono ?_);rintro e w3 ⟨q,rfl,hq1,hk3⟩;exact⟨_,rfl,_,rfl,QA rfl,Le.QJ (by omega) (SY.ask hJ (hnot 16 (by kernel_rfl)) (hnot 15 (by kernel_rfl)) hk3 hq1 (by decide) (by decide) (by simp))⟩
   | 5,ho=>
     obtain rfl:=Oj9 ho;have e0:=hout 5 (by kernel_rfl);replace e0:a'.eval (.tmp 5)=_:=e0.trans rfl;obtain⟨hM,-,-⟩:=hJ.1 (hnot 16 (by kernel_rfl));exact Qw Zv (.tmp 5) rfl b2 0 e0 (Qf j) rfl (hM.at 1 _ rfl).range ⟨_,rfl,Qe rfl,Le.Qj [16,15,1,4,7,12] (SY.loc (qs:= [(1,qa (decide (0<Qs o)) 1),(4,qa (Qu o j) 2),(7,qa (Qt j n) 2),(12,qa (Qx o n lx.ep) 2)])) (by omega) (by decide) hJ⟩
   | 6,ho=>
     obtain rfl:=Oj9 ho;have e0:=hout 6 (by kernel_rfl);replace e0:a'.eval (.tmp 6)=_:=e0.trans rfl;obtain⟨hM,-,-⟩:=hJ.1 (hnot 16 (by kernel_rfl));exact Ar.Zx (.tmp 6) rfl _ _ e0 (Qb (hM.at 2 _ rfl) 0 _ rfl) ⟨_,rfl,Qe rfl,Le.Qj [16,15,1,4,7,12] (SY.loc (qs:= [(1,qa (decide (0<Qs o)) 1),(4,qa (Qu o j) 2),(7,qa (Qt j n) 2),(12,qa (Qx o n lx.ep) 2)])) (by omega) (by decide) hJ⟩
   | 7,ho=>
     obtain rfl:=Oj9 ho;have e0:a'.eval (.tmp 15)=Qd (Qf j):=by have h9:=hin 5 15 (by kernel_rfl) (by kernel_rfl);exact h9.1.trans (Qc _ h9.2 rfl)
     have e1:a'.eval (.tmp 16)= .int .i64 n:=by have h9:=hin 6 16 (by kernel_rfl) (by kernel_rfl);exact h9.1.trans (Qc _ h9.2 rfl)
     obtain⟨hM,-,-⟩:=hJ.1 (hnot 16 (by kernel_rfl));refine Qq 64 _ _ rfl #[Qd (Qf j),.int .i64 n] (by simp [e0,e1]) (cg64 _ _) ((node64 j n w2).mono ?_);rintro e w3 ⟨q,rfl,hq1,hk3⟩;exact⟨_,rfl,_,rfl,QA rfl,Le.QJ (by omega) (SY.ask hJ (hnot 16 (by kernel_rfl)) (hnot 15 (by kernel_rfl)) hk3 hq1 (by decide) (by decide) (by simp))⟩
   | 8,ho=>
     obtain rfl:=Oj9 ho;have e0:=hout 4 (by kernel_rfl);replace e0:a'.eval (.tmp 4)=_:=e0.trans rfl;obtain⟨hM,-,-⟩:=hJ.1 (hnot 16 (by kernel_rfl));exact Zz (.tmp 4) rfl _ _ e0 (Qb (hM.at 0 _ rfl) 0 _ rfl) ⟨_,rfl,Qe rfl,Le.Qj [16,15,1,4,7,12] (SY.loc (qs:= [(1,qa (decide (0<Qs o)) 1),(4,qa (Qu o j) 2),(7,qa (Qt j n) 2),(12,qa (Qx o n lx.ep) 2)])) (by omega) (by decide) hJ⟩
   | 9,ho=>
     obtain rfl:=Oj9 ho;have e0:=hout 6 (by kernel_rfl);replace e0:a'.eval (.tmp 6)=_:=e0.trans rfl;obtain⟨hM,-,-⟩:=hJ.1 (hnot 16 (by kernel_rfl));exact Ar.Zx (.tmp 6) rfl _ _ e0 (Qb (hM.at 2 _ rfl) 0 _ rfl) ⟨_,rfl,Qe rfl,Le.Qj [16,15,1,4,7,12] (SY.loc (qs:= [(1,qa (decide (0<Qs o)) 1),(4,qa (Qu o j) 2),(7,qa (Qt j n) 2),(12,qa (Qx o n lx.ep) 2)])) (by omega) (by decide) hJ⟩
   | 10,ho=>
     obtain rfl:=Oj9 ho;have e0:=hout 7 (by kernel_rfl);replace e0:a'.eval (.tmp 7)=_:=e0.trans rfl;exact Le.o_fld23_0 (.tmp 7) rfl b4 0 e0 ⟨_,rfl,Qe rfl,Le.Qj [16,15,1,4,7,12] (SY.loc (qs:= [(1,qa (decide (0<Qs o)) 1),(4,qa (Qu o j) 2),(7,qa (Qt j n) 2),(12,qa (Qx o n lx.ep) 2)])) (by omega) (by decide) hJ⟩
   | 11,ho=>
     obtain rfl:=Oj9 ho;have e0:a'.eval (.tmp 20)= .pointer (some ⟨b4,0,none⟩):=by have h9:=hin 10 20 (by kernel_rfl) (by kernel_rfl);exact h9.1.trans (Qc _ h9.2 rfl)
     obtain⟨hM,-,-⟩:=hJ.1 (hnot 16 (by kernel_rfl));exact Za (.tmp 20) rfl _ _ e0 (Qb (hM.at 3 _ rfl) 0 _ rfl) ⟨_,rfl,Qe rfl,Le.Qj [16,15,1,4,7,12] (SY.loc (qs:= [(1,qa (decide (0<Qs o)) 1),(4,qa (Qu o j) 2),(7,qa (Qt j n) 2),(12,qa (Qx o n lx.ep) 2)])) (by omega) (by decide) hJ⟩
   | 12,ho=>
     obtain rfl:=Oj9 ho;have e0:a'.eval (.tmp 18)= .pointer ao:=by have h9:=hin 8 18 (by kernel_rfl) (by kernel_rfl);exact h9.1.trans (Qc _ h9.2 rfl)
     have e1:a'.eval (.tmp 19)= .int .i64 n:=by have h9:=hin 9 19 (by kernel_rfl) (by kernel_rfl);exact h9.1.trans (Qc _ h9.2 rfl)
     have e2:a'.eval (.tmp 21)= .int .i64 lx.ep:=by have h9:=hin 11 21 (by kernel_rfl) (by kernel_rfl);exact h9.1.trans (Qc _ h9.2 rfl)
     obtain⟨hM,-,-⟩:=hJ.1 (hnot 16 (by kernel_rfl));refine Qq 68 _ _ rfl #[.pointer ao,.int .i64 n,.int .i64 lx.ep] (by simp [e0,e1,e2]) (cg68 _ _) ((epoch68 (.pointer ao) o n lx.ep w2 ((Qa HD).kept hM.kept)).mono ?_);rintro e w3 ⟨q,rfl,hq1,hk3⟩;exact⟨_,rfl,_,rfl,QA rfl,Le.QJ (by omega) (SY.ask hJ (hnot 16 (by kernel_rfl)) (hnot 15 (by kernel_rfl)) hk3 hq1 (by decide) (by decide) (by simp))⟩
   | 13,ho=>
     obtain rfl:=Oj9 ho;have e0:=hout 7 (by kernel_rfl);replace e0:a'.eval (.tmp 7)=_:=e0.trans rfl;have e1:=hout 9 (by kernel_rfl);replace e1:a'.eval (.tmp 9)=_:=e1.trans rfl;have f0:a'.eval (.tmp 7)=P0 b4:=e0;have f1:a'.eval (.tmp 9)=P0 b5:=e1;exact o_mkf 69 _ rfl #[P0 b4,P0 b5] (by simp [f0,f1]) ⟨_,rfl,Qe rfl,Le.Qj [16,15,1,4,7,12] (SY.loc (qs:= [(1,qa (decide (0<Qs o)) 1),(4,qa (Qu o j) 2),(7,qa (Qt j n) 2),(12,qa (Qx o n lx.ep) 2)])) (by omega) (by decide) hJ⟩
   | 14,ho=>
     obtain rfl:=Oj9 ho;have e0:=hout 5 (by kernel_rfl);replace e0:a'.eval (.tmp 5)=_:=e0.trans rfl;have e1:=hout 6 (by kernel_rfl);replace e1:a'.eval (.tmp 6)=_:=e1.trans rfl;have e2:=hout 4 (by kernel_rfl);replace e2:a'.eval (.tmp 4)=_:=e2.trans rfl;have e3:=hout 7 (by kernel_rfl);replace e3:a'.eval (.tmp 7)=_:=e3.trans rfl;have e4:=hout 9 (by kernel_rfl);replace e4:a'.eval (.tmp 9)=_:=e4.trans rfl;have f0:a'.eval (.tmp 5)=P0 b2:=e0;have f1:a'.eval (.tmp 6)=P0 b3:=e1;have f2:a'.eval (.tmp 4)=P0 b1:=e2;have f3:a'.eval (.tmp 7)=P0 b4:=e3;have f4:a'.eval (.tmp 9)=P0 b5:=e4;exact o_mkf 71 _ rfl #[P0 b2,P0 b3,P0 b1,P0 b4,P0 b5] (by simp [f0,f1,f2,f3,f4]) ⟨_,rfl,Qe rfl,Le.Qj [16,15,1,4,7,12] (SY.loc (qs:= [(1,qa (decide (0<Qs o)) 1),(4,qa (Qu o j) 2),(7,qa (Qt j n) 2),(12,qa (Qx o n lx.ep) 2)])) (by omega) (by decide) hJ⟩
   | 15,ho=>
     obtain rfl:=Oj9 ho;have e0:a'.eval (.tmp 11)=vs 1:=(hin 1 11 (by kernel_rfl) (by kernel_rfl)).1;have e1:a'.eval (.tmp 14)=vs 4:=(hin 4 14 (by kernel_rfl) (by kernel_rfl)).1;have e2:a'.eval (.tmp 17)=vs 7:=(hin 7 17 (by kernel_rfl) (by kernel_rfl)).1;have e3:a'.eval (.tmp 22)=vs 12:=(hin 12 22 (by kernel_rfl) (by kernel_rfl)).1;have e4:a'.eval (.tmp 23)=fnV 69 #[P0 b4,P0 b5]:=by have h9:=hin 13 23 (by kernel_rfl) (by kernel_rfl);exact h9.1.trans (Qc _ h9.2 rfl)
     have e5:a'.eval (.tmp 24)=fnV 71 #[P0 b2,P0 b3,P0 b1,P0 b4,P0 b5]:=by have h9:=hin 14 24 (by kernel_rfl) (by kernel_rfl);exact h9.1.trans (Qc _ h9.2 rfl)
     have hQ:=(hJ.1 (hnot 16 (by kernel_rfl))).2.1;have h1:=hdep 1 (by kernel_rfl);have h2:=hdep 4 (by kernel_rfl);have h3:=hdep 7 (by kernel_rfl);have h4:=hdep 12 (by kernel_rfl);exact o_bs6 (.tmp 11) (.tmp 14) (.tmp 17) (.tmp 22) (.tmp 23) (.tmp 24) rfl _ _ _ _ 69 71 _ _ e0 e1 e2 e3 e4 e5 (hQ (1,qa (decide (0<Qs o)) 1) (by simp) h1) (hQ (4,qa (Qu o j) 2) (by simp) h2) (hQ (7,qa (Qt j n) 2) (by simp) h3) (hQ (12,qa (Qx o n lx.ep) 2) (by simp) h4) ⟨_,rfl,QA rfl,Le.QJ (by omega) (SY.row hJ (hnot 16 (by kernel_rfl)) (by intro q hq;simp at hq;rcases hq with rfl | rfl | rfl | rfl;exact h1;exact h2;exact h3;exact h4) (by simp))⟩
   | 16,ho=>
     obtain rfl:=Oj9 ho;have e0:a'.eval (.tmp 25)=vs 15:=(hin 15 25 (by kernel_rfl) (by kernel_rfl)).1;obtain⟨hM,hQ,hr⟩:=hJ.1 hlf;obtain⟨ha,p,hp,hb⟩:=hr (hdep 15 (by kernel_rfl));refine Qq 67 _ _ rfl #[.slice (some ⟨p,0,none⟩) 6 6] (by simp only [List.map_toArray,List.map_cons,List.map_nil,e0];rw [hp]) (cg67 _ _) ((Qa HT w2 p b1 b2 b3 b4 b5 [(vs 1,qa (decide (0<Qs o)) 1),(vs 4,qa (Qu o j) 2),(vs 7,qa (Qt j n) 2),(vs 12,qa (Qx o n lx.ep) 2)] hM rfl rfl (by intro q hq;simp at hq;rcases hq with rfl | rfl | rfl | rfl;exact hQ (1,qa (decide (0<Qs o)) 1) (by simp) (ha (1,_) (by simp));exact hQ (4,qa (Qu o j) 2) (by simp) (ha (4,_) (by simp));exact hQ (7,qa (Qt j n) 2) (by simp) (ha (7,_) (by simp));exact hQ (12,qa (Qx o n lx.ep) 2) (by simp) (ha (12,_) (by simp))) hb).mono ?_);rintro e w3 ⟨rfl,kd,hpp⟩;exact⟨_,rfl,_,rfl,Qe rfl,Le.QJ (by omega) ⟨(fun h=>by cases h),fun _=>⟨(hM.kept.mono (by simp)).trans kd,hpp⟩⟩⟩
   | 17,ho=>
     obtain rfl:=Oj9 ho;have e0:a'.eval (.tmp 26)= .int .i64 x:=by have h9:=hin 16 26 (by kernel_rfl) (by kernel_rfl);exact h9.1.trans (Qc _ h9.2 rfl)
     exact QI (.tmp 26) rfl _ e0 ⟨_,rfl,Qe rfl,Le.Qj [16,15,1,4,7,12] (SY.loc (qs:= [(1,qa (decide (0<Qs o)) 1),(4,qa (Qu o j) 2),(7,qa (Qt j n) 2),(12,qa (Qx o n lx.ep) 2)])) (by omega) (by decide) hJ⟩
 intro l_ vs4 V4 hl hJ htold;have t0:vs4 0= .pointer ao:=Qc _ (htold 0 (by decide)) rfl;have t2:vs4 2= .pointer ao:=Qc _ (htold 2 (by decide)) rfl;have t3:vs4 3=Qd (Qf j):=Qc _ (htold 3 (by decide)) rfl;have t5:vs4 5=Qd (Qf j):=Qc _ (htold 5 (by decide)) rfl;have t6:vs4 6= .int .i64 n:=Qc _ (htold 6 (by decide)) rfl;have t8:vs4 8= .pointer ao:=Qc _ (htold 8 (by decide)) rfl;have t9:vs4 9= .int .i64 n:=Qc _ (htold 9 (by decide)) rfl;have t10:vs4 10= .pointer (some ⟨b4,0,none⟩):=Qc _ (htold 10 (by decide)) rfl;have t11:vs4 11= .int .i64 lx.ep:=Qc _ (htold 11 (by decide)) rfl;have t13:vs4 13=fnV 69 #[P0 b4,P0 b5]:=Qc _ (htold 13 (by decide)) rfl;have t14:vs4 14=fnV 71 #[P0 b2,P0 b3,P0 b1,P0 b4,P0 b5]:=Qc _ (htold 14 (by decide)) rfl;have t16:vs4 16= .int .i64 x:=Qc _ (htold 16 (by decide)) rfl;have t17:vs4 17= .int .i64 x:=Qc _ (htold 17 (by decide)) rfl;rw [show (List.range 18).map vs4= [vs4 0,vs4 1,vs4 2,vs4 3,vs4 4,vs4 5,vs4 6,vs4 7,vs4 8,vs4 9,vs4 10,vs4 11,vs4 12,vs4 13,vs4 14,vs4 15,vs4 16,vs4 17] from rfl];simp only [t0,t2,t3,t5,t6,t8,t9,t10,t11,t13,t14,t16,t17,Qz,Act.put,List.setIfInBounds_toArray,List.set_cons_succ,List.set_cons_zero];clear t0 t2 t3 t5 t6 t8 t9 t10 t11 t13 t14 t16 t17 htold;obtain⟨hk,hp⟩:=hJ.2 (hl 16 (by decide));have HKE:=hide hk;have HPE:=hide hp;generalize vs4 1=u1;generalize vs4 4=u4;generalize vs4 7=u7;generalize vs4 12=u12;generalize vs4 15=u15;clear hJ hl hk hp M;go_wp2_with fail
 go_ret
 refine⟨rfl,(Kept.refl _ _).fresh (Qa HKE) (fun i hi hl=> ?_),Qa HPE⟩;rcases List.mem_cons.1 hi with rfl | hi
 · have:=Qa HN5;omega
 · exact hi
theorem say31 (b g:Nat) (D:Dv.Dev) (j:Job) (n:Int) (lx:Le.Le) (w:World) (h:Dv.Dv w b g D):
   Calls Tryz.prog 31 #[P0 b,Qd (Qf j),.int .i64 n,Qd lx.C] w fun e w'=>e= .returned (.int .i64 (msay D j n lx).1)∧Kept [b,g] w w'∧Dv.Dv w' b g (msay D j n lx).2:=by
 refine sayW (some ⟨b,0,none⟩) (some D) j n lx w ⟨b,g,rfl,h⟩ [b,g] (msay D j n lx).1 (fun V=>Dv.Dv V b g (msay D j n lx).2) ?_;intro W p b1 b2 b3 b4 b5 L hM hL hs hq hB;have hk:=hM.kept;have hd:=h.kept hk (by simp) (by simp);refine(told31 p b1 b2 b3 b4 b5 b g D j n lx L W hL hs hq (Rg.of hB) ⟨_,hB⟩ (hM.at 0 _ rfl) (hM.at 1 _ rfl) (hM.at 2 _ rfl) (hM.at 3 _ rfl) (hM.at 4 _ rfl) hd ?_).mono ?_
 · have h1:=mm_new hM (b5,59,u8s (Vi.zs 64)) (by simp);have h2:=h.lt;simp only at h1;simp;omega
 · rintro e W' ⟨y,rfl,kd,hd',rfl⟩;exact⟨rfl,kd,hd'⟩
end Go.Proofs.YtcfflbafclmheaaGreatDoor
