/-
  Texts of the walks of member, shortened.
-/
import Derived.Test.YtcfflbafclmheaaGreatDoorDan
set_option maxRecDepth 100000
set_option maxHeartbeats 100000000
set_option linter.unusedSimpArgs false
namespace Go.Proofs.YtcfflbafclmheaaGreatDoor
open Go.RowKit
open Le (Mm Qh Qo)
@[reducible] def SJ (w:World) (Y:List Nat) (P:World→Prop) (mk:List Value→List (Nat×Nat×List Value)) (z0 z1:List Value) (q c k:Nat) (XS:List Int) (d:Nat→Bool) (vs:Nat→Value) (W:World):Prop:=
 (d c=false→Mm [] w W (mk z0)∧(d q=true→∃base L,Qr W base (vs q) L∧L.map Prod.snd=XS))∧(d c=true→P W∧(d k=false→Mm Y w W (mk z0))∧(d k=true→Mm Y w W (mk z1)))∧(d (c+1)=true→d c=true)
theorem SJ.loc {w:World} {Y:List Nat} {P:World→Prop} {mk:List Value→List (Nat×Nat×List Value)} {z0 z1:List Value} {q c k:Nat} {XS:List Int} :∀d d' vs vs' W,(∀i∈ [q,c,k,c+1],d i=d' i∧vs i=vs' i)→SJ w Y P mk z0 z1 q c k XS d vs W→SJ w Y P mk z0 z1 q c k XS d' vs' W:=by
 intro d d' vs vs' W H h;have e1:=H q (by simp);have e2:=H c (by simp);have e3:=H k (by simp);have e4:=H (c+1) (by simp);unfold SJ at h⊢;rw [← e1.1,← e1.2,← e2.1,← e3.1,← e4.1];exact h
theorem SJ.ask {w:World} {Y:List Nat} {P:World→Prop} {mk:List Value→List (Nat×Nat×List Value)} {z0 z1:List Value} {q c k:Nat} {XS:List Int} {d:Nat→Bool} {vs:Nat→Value} {W W':World} (h:SJ w Y P mk z0 z1 q c k XS d vs W) (hc:d c=false) (hk:Kept [] W W') (hcq:c≠q) (hcq1:c+1≠q) {v:Value} {base:Nat} {L:List (Value×Int)} (hQ:Qr W' base v L) (hL:L.map Prod.snd=XS):
   SJ w Y P mk z0 z1 q c k XS (fun i=>if i=q then true else d i) (fun i=>if i=q then v else vs i) W':=by
 refine⟨fun _=>⟨(h.1 hc).1.step hk,fun _=>⟨base,L,?_,hL⟩⟩,(fun h9=> ?_),fun h9=> ?_⟩
 · dsimp only;rw [if_pos rfl];exact hQ
 · dsimp only at h9;rw [if_neg hcq,hc] at h9;cases h9
 · dsimp only at h9⊢;rw [if_neg hcq1] at h9;have:=h.2.2 h9;rw [hc] at this;cases this
theorem SJ.chg {w:World} {Y:List Nat} {P:World→Prop} {mk:List Value→List (Nat×Nat×List Value)} {z0 z1:List Value} {q c k:Nat} {XS:List Int} {d:Nat→Bool} {vs:Nat→Value} {W W':World} {v:Value} (h:SJ w Y P mk z0 z1 q c k XS d vs W) (hc:d c=false) (hk:d k=false) (hck:k≠c) (kd:Kept Y W W') (hP:P W') (hY:∀y∈Y,y<w.heap.size):
   SJ w Y P mk z0 z1 q c k XS (fun i=>if i=c then true else d i) (fun i=>if i=c then v else vs i) W':=by
 have hM:=(h.1 hc).1;refine⟨(fun h9=> ?_),(fun _=>⟨hP,fun _=>mm_devY (mm_more hM) kd (mm_new hM) hY,fun h9=> ?_⟩),fun _=>by dsimp only;rw [if_pos rfl]⟩
 · dsimp only at h9;rw [if_pos rfl] at h9;cases h9
 · dsimp only at h9;rw [if_neg hck,hk] at h9;cases h9
theorem SJ.lay {w:World} {Y:List Nat} {P:World→Prop} {mk:List Value→List (Nat×Nat×List Value)} {z0 z1:List Value} {q c k:Nat} {XS:List Int} {d:Nat→Bool} {vs:Nat→Value} {W':World} {v:Value} (hc:d c=true) (hck:c≠k) (hP:P W') (hM:Mm Y w W' (mk z1)):
   SJ w Y P mk z0 z1 q c k XS (fun i=>if i=k then true else d i) (fun i=>if i=k then v else vs i) W':=by
 refine⟨(fun h9=> ?_),(fun _=>⟨hP,fun h9=> ?_,fun _=>hM⟩),fun _=>by dsimp only;rw [if_neg hck];exact hc⟩
 · dsimp only at h9;rw [if_neg hck,hc] at h9;cases h9
 · dsimp only at h9;rw [if_pos rfl] at h9;cases h9
theorem SJ.ext {w:World} {Y:List Nat} {P:World→Prop} {mk:List Value→List (Nat×Nat×List Value)} {z0 z1:List Value} {q c k:Nat} {XS:List Int} {d:Nat→Bool} {vs:Nat→Value} {W:World} {v:Value} (h:SJ w Y P mk z0 z1 q c k XS d vs W) (hc:d c=true) (hq:q≠c+1) (hk:k≠c+1):
   SJ w Y P mk z0 z1 q c k XS (fun i=>if i=c+1 then true else d i) (fun i=>if i=c+1 then v else vs i) W:=by
 have hcc:c≠c+1:=by omega
 refine⟨?_,?_,fun _=>by dsimp only;rw [if_neg hcc];exact hc⟩
 · dsimp only;rw [if_neg hcc,if_neg hq,if_neg hq];exact h.1
 · dsimp only;rw [if_neg hcc,if_neg hk];exact h.2.1
def job0:Job:=⟨0,0,0,0,0⟩
theorem zero135 (w:World):(Instr.alloc 135 true (.tuple #[])).run Tryz.prog w= .ok (P0 w.heap.size) (w.alloc (.cells (QK none job0 0 0).toArray 135)):=by kernel_rfl
theorem build135 (w:World) (ao:Option Addr) (j:Job) (n ep:Int):(Instr.build 135 #[(0,.pointer ao),(1,Qd (Qf j)),(2,.int .i64 n),(3,.int .i64 ep)]).run Tryz.prog w= .ok (Qd (QK ao j n ep)) w:=by kernel_rfl
theorem cg75 (vs:Array Value) (w:World):(callFunc 75 vs).run Tryz.prog w= .ok (.enter 75 vs) w:=by kernel_rfl
theorem cg74 (vs:Array Value) (w:World):(callFunc 74 vs).run Tryz.prog w= .ok (.enter 74 vs) w:=by kernel_rfl
theorem ent76:Ent 76:=fun _ _=>by kernel_rfl
theorem ent87:Ent 87:=fun _ _=>by kernel_rfl
theorem res32 (w:World) (z:Nat) (vs:List Value) (b:Bool) (e:Int) (tmps:Array Value) (h4:tmps[8]?.getD undef=P0 z) (h5:tmps[9]?.getD undef= .bool b) (h6:tmps[10]?.getD undef= .int .i64 e) (hl:vs.length=19) (hb:Blk w z 29 vs):(results Tryz.f32 tmps).run Tryz.prog w= .ok (.tuple #[Qd vs,.bool b,.int .i64 e]) w:=by
 have h1:=Zq Vi.Qn hl hb;simp [results,Tryz.results32,h4,h5,h6,h1,asAddr]
theorem joinW (ao:Option Addr) (o:Option Dv.Dev) (j:Job) (n ep:Int) (w:World) (hw0:0<w.heap.size) (h:Dq w (.pointer ao) o) (Y:List Nat) (z:Vi.Vw×Bool) (x:Int) (P:World→Prop) (hY:∀y∈Y,y<w.heap.size) (hP:∀V V' X,(∀y∈X,w.heap.size≤y)→P V→Kept X V V'→P V') (hz:z.1.ms.length=8)
   (hC:∀(W:World) (v:Value) (base:Nat) (L:List (Value×Int)) (c0 c1:Nat),Kept [] w W→Qr W base v L→L.map Prod.snd= [qa (decide (0<Qs o)) 1,qa (Qu o j) 2,qa (Qt j n) 2,qa (Qx o n ep) 2,qa (!QF o n ep) 8]→Blk W c0 3 [.int .i64 n]→Blk W c1 2 [.int .i64 ep]→Calls Tryz.prog 74 #[Qd (QK ao j n ep),v,fnV 76 #[P0 c0,P0 c1]] W fun e W'=>e= .returned (.tuple #[Qd (Vi.vwC z.1),.bool z.2,.int .i64 x])∧Kept Y W W'∧P W'):
   Calls Tryz.prog 32 #[.pointer ao,Qd (Qf j),.int .i64 n,.int .i64 ep] w fun e w'=>e= .returned (.tuple #[Qd (Vi.vwC z.1),.bool z.2,.int .i64 x])∧Kept Y w w'∧P w':=by
 have HC:=hide hC;have HY:=hide hY;have HP:=hide hP;have HLZ:=hide (Vi.Qk hz);have HD:=hide h;have HW0:=hide hw0;clear hC hY hP hz h hw0;have M:Hid (Mm [] w w []):=hide Mm.init;go_enter Tryz.func32,Tryz.ntmps32
 go_wp2_with (first |(refine Qp rfl (.tmp 1) rfl (Qf j) rfl ?_;intro W1 b1 e1 B1 K1;replace M:=hide ((Qa M).new e1 B1 K1);clear e1 B1 K1;refine Stp.go ?_))
 constructor
 go_wp2_with (first |(refine wpBoxI rfl (.tmp 2) rfl n rfl ?_;intro W2 b2 e2 B2 K2;replace M:=hide ((Qa M).new e2 B2 K2);clear e2 B2 K2;refine Stp.go ?_))
 constructor
 go_wp2_with (first |(refine wpBoxI rfl (.tmp 3) rfl ep rfl ?_;intro W3 b3 e3 B3 K3;replace M:=hide ((Qa M).new e3 B3 K3);clear e3 B3 K3;refine Stp.go ?_))
 constructor
 go_wp2_with (first |(refine Qv (Vi.vwC Vi.zv) Vi.QE 8 rfl rfl rfl ?_;intro W4 b4 e4 B4 K4;replace M:=hide ((Qa M).new e4 B4 K4);clear e4 B4 K4;have qn:=Qb ((Qa M).at 1 _ rfl) 0 _ rfl;have qe:=Qb ((Qa M).at 2 _ rfl) 0 _ rfl;refine Stp.go ?_))
 constructor
 go_wp2_with (first |(refine Qg Zv rfl (.tmp 5) rfl b1 0 rfl (Qf j) rfl ((Qa M).at 0 _ rfl).range ?_;refine Stp.go ?_))
 constructor
 go_wp2_with (first |(refine Zm rfl #[(0,.tmp 12),(1,.tmp 13),(2,.tmp 14),(3,.tmp 15)] rfl #[(0,.pointer ao),(1,Qd (Qf j)),(2,.int .i64 n),(3,.int .i64 ep)] (by kernel_rfl) (QK ao j n ep) (build135 _ ao j n ep) ?_;refine Stp.go ?_))
 constructor
 go_wp2_with (first |(refine QM row135 (QK none job0 0 0) rfl zero135 11 rfl rfl rfl (.tmp 16) rfl rfl rfl (QK ao j n ep) rfl (askC_one _ _ _ _) (by kernel_rfl) (by kernel_rfl) ?_;intro W5 b5 e5 B5 K5;replace M:=hide ((Qa M).new e5 B5 K5);clear e5 B5 K5;clear qn qe;refine Stp.go ?_))
 constructor
 go_wp2_with fail
 have HNZ:Hid (w.heap.size≤b4):=mm_new (Qa M) (b4,29,Vi.vwC Vi.zv) (by simp);refine wp_region_any mixed (QL 11 rfl (by kernel_rfl) [some (Qd (QK ao j n ep)),some (Qd (QK ao j n ep)),none,some (fnV 76 #[P0 b2,P0 b3]),some (.tuple #[Qd (Vi.vwC z.1),.bool z.2,.int .i64 x]),some (Qd (Vi.vwC z.1)),some (.bool z.2),some (.int .i64 x),none,some (.bool z.2),some (.int .i64 x)] rfl (by kernel_rfl) (fun l vs W=>(SJ w Y P (fun Z=> [(b1,23,Qf j),(b2,3,[.int .i64 n]),(b3,2,[.int .i64 ep]),(b4,29,Z),(b5,135,QK ao j n ep)]) (Vi.vwC Vi.zv) (Vi.vwC z.1) 2 4 8 [qa (decide (0<Qs o)) 1,qa (Qu o j) 2,qa (Qt j n) 2,qa (Qx o n ep) 2,qa (!QF o n ep) 8]) (fun i=>l.getD i false) vs W) (⟨fun _=>⟨(Qa M).drew,(fun h=>by cases h)⟩,(fun h=>by cases h),(fun h=>by cases h)⟩) ?_ ?_)
 · intro ix o' hi ho a' w2 l vs hls hlf hJ hout hin hdep hnot
   match ix,ho with
   | 0,ho=>
     obtain rfl:=Oj9 ho;have e0:=hout 11 (by kernel_rfl);replace e0:a'.eval (.tmp 11)=_:=e0.trans rfl;obtain⟨hM,-⟩:=hJ.1 (hnot 4 (by kernel_rfl));exact Qw row135 (.tmp 11) rfl b5 0 e0 (QK ao j n ep) rfl (hM.at 4 _ rfl).range ⟨_,rfl,Qe rfl,Le.Qj [2,4,8,5] SJ.loc (by omega) (by decide) hJ⟩
   | 1,ho=>
     obtain rfl:=Oj9 ho;have e0:=hout 11 (by kernel_rfl);replace e0:a'.eval (.tmp 11)=_:=e0.trans rfl;obtain⟨hM,-⟩:=hJ.1 (hnot 4 (by kernel_rfl));exact Qw row135 (.tmp 11) rfl b5 0 e0 (QK ao j n ep) rfl (hM.at 4 _ rfl).range ⟨_,rfl,Qe rfl,Le.Qj [2,4,8,5] SJ.loc (by omega) (by decide) hJ⟩
   | 2,ho=>
     obtain rfl:=Oj9 ho;have e0:a'.eval (.tmp 18)=Qd (QK ao j n ep):=by have h9:=hin 1 18 (by kernel_rfl) (by kernel_rfl);exact h9.1.trans (Qc _ h9.2 rfl)
     obtain⟨hM,-⟩:=hJ.1 (hnot 4 (by kernel_rfl));refine Qq 75 _ _ rfl #[Qd (QK ao j n ep),.slice none 0 0] (by simp [e0];rfl) (cg75 _ _) ((may75 ao o j n ep [] (.slice none 0 0) w2 (Nat.lt_of_lt_of_le (Qa HW0) hM.kept.size) ((Qa HD).kept hM.kept) (.inl ⟨rfl,rfl⟩) (by simp)).mono ?_);rintro e w3 ⟨v,L,rfl,hq,hs,hk3⟩;exact⟨_,rfl,_,rfl,QA rfl,Le.QJ (by omega) (SJ.ask hJ (hnot 4 (by kernel_rfl)) hk3 (by decide) (by decide) hq hs)⟩
   | 3,ho=>
     obtain rfl:=Oj9 ho;have e0:=hout 6 (by kernel_rfl);replace e0:a'.eval (.tmp 6)=_:=e0.trans rfl;have e1:=hout 7 (by kernel_rfl);replace e1:a'.eval (.tmp 7)=_:=e1.trans rfl;have f0:a'.eval (.tmp 6)=P0 b2:=e0;have f1:a'.eval (.tmp 7)=P0 b3:=e1;exact o_mkf 76 _ rfl #[P0 b2,P0 b3] (by simp [f0,f1]) ⟨_,rfl,Qe rfl,Le.Qj [2,4,8,5] SJ.loc (by omega) (by decide) hJ⟩
   | 4,ho=>
     obtain rfl:=Oj9 ho;have e0:a'.eval (.tmp 17)=Qd (QK ao j n ep):=by have h9:=hin 0 17 (by kernel_rfl) (by kernel_rfl);exact h9.1.trans (Qc _ h9.2 rfl)
     have e1:a'.eval (.tmp 19)=vs 2:=(hin 2 19 (by kernel_rfl) (by kernel_rfl)).1;have e2:a'.eval (.tmp 20)=fnV 76 #[P0 b2,P0 b3]:=by have h9:=hin 3 20 (by kernel_rfl) (by kernel_rfl);exact h9.1.trans (Qc _ h9.2 rfl)
     obtain⟨hM,hq⟩:=hJ.1 hlf;obtain⟨base,L,hQ,hL⟩:=hq (hdep 2 (by kernel_rfl));refine Qq 74 _ _ rfl #[Qd (QK ao j n ep),vs 2,fnV 76 #[P0 b2,P0 b3]] (by simp [e0,e1,e2]) (cg74 _ _) ((Qa HC w2 (vs 2) base L b2 b3 hM.kept hQ hL (hM.at 1 _ rfl) (hM.at 2 _ rfl)).mono ?_);rintro e w3 ⟨rfl,kd,hp⟩;exact⟨_,rfl,_,rfl,Qe rfl,Le.QJ (by omega) (SJ.chg hJ hlf (hnot 8 (by kernel_rfl)) (by decide) kd hp (Qa HY))⟩
   | 5,ho=>
     obtain rfl:=Oj9 ho;have e0:a'.eval (.tmp 21)= .tuple #[Qd (Vi.vwC z.1),.bool z.2,.int .i64 x]:=by have h9:=hin 4 21 (by kernel_rfl) (by kernel_rfl);exact h9.1.trans (Qc _ h9.2 rfl)
     exact o_ext (.tmp 21) 0 rfl _ _ e0 rfl ⟨_,rfl,Qe rfl,Le.QJ (by omega) (SJ.ext hJ (hdep 4 (by kernel_rfl)) (by decide) (by decide))⟩
   | 6,ho=>
     obtain rfl:=Oj9 ho;have e0:a'.eval (.tmp 21)= .tuple #[Qd (Vi.vwC z.1),.bool z.2,.int .i64 x]:=by have h9:=hin 4 21 (by kernel_rfl) (by kernel_rfl);exact h9.1.trans (Qc _ h9.2 rfl)
     exact o_ext (.tmp 21) 1 rfl _ _ e0 rfl ⟨_,rfl,Qe rfl,Le.Qj [2,4,8,5] SJ.loc (by omega) (by decide) hJ⟩
   | 7,ho=>
     obtain rfl:=Oj9 ho;have e0:a'.eval (.tmp 21)= .tuple #[Qd (Vi.vwC z.1),.bool z.2,.int .i64 x]:=by have h9:=hin 4 21 (by kernel_rfl) (by kernel_rfl);exact h9.1.trans (Qc _ h9.2 rfl)
     exact o_ext (.tmp 21) 2 rfl _ _ e0 rfl ⟨_,rfl,Qe rfl,Le.Qj [2,4,8,5] SJ.loc (by omega) (by decide) hJ⟩
   | 8,ho=>
     obtain rfl:=Oj9 ho;have e0:=hout 8 (by kernel_rfl);replace e0:a'.eval (.tmp 8)=_:=e0.trans rfl;have e1:a'.eval (.tmp 22)=Qd (Vi.vwC z.1):=by have h9:=hin 5 22 (by kernel_rfl) (by kernel_rfl);exact h9.1.trans (Qc _ h9.2 rfl)
     have hc4:l.getD 4 false=true:=hJ.2.2 (hdep 5 (by kernel_rfl));obtain⟨hp,hm,-⟩:=hJ.2.1 hc4;have hM:=hm hlf;exact Zh Vi.Qn (.tmp 8) (.tmp 22) rfl rfl b4 0 (Vi.vwC z.1) e0 e1 (Qa HLZ) (Vi.Ql _) ((hM.at 3 _ rfl).there (show 0+19≤(Vi.vwC Vi.zv).length by decide)) ⟨undef,rfl,QA rfl,Le.QJ (by omega) (SJ.lay hc4 (by decide) (Qa HP w2 _ [b4] (by simpa using Qa HNZ) hp ((Kept.refl [b4] _).setCells _ _ (by simp))) (hM.sets 3 rfl (Vi.vwC z.1) (by rw [Qa HLZ];rfl)))⟩
   | 9,ho=>
     obtain rfl:=Oj9 ho;have e0:a'.eval (.tmp 23)= .bool z.2:=by have h9:=hin 6 23 (by kernel_rfl) (by kernel_rfl);exact h9.1.trans (Qc _ h9.2 rfl)
     exact QI (.tmp 23) rfl _ e0 ⟨_,rfl,Qe rfl,Le.Qj [2,4,8,5] SJ.loc (by omega) (by decide) hJ⟩
   | 10,ho=>
     obtain rfl:=Oj9 ho;have e0:a'.eval (.tmp 24)= .int .i64 x:=by have h9:=hin 7 24 (by kernel_rfl) (by kernel_rfl);exact h9.1.trans (Qc _ h9.2 rfl)
     exact QI (.tmp 24) rfl _ e0 ⟨_,rfl,Qe rfl,Le.Qj [2,4,8,5] SJ.loc (by omega) (by decide) hJ⟩
 intro l_ vs4 V4 hl hJ htold;have t0:vs4 0=Qd (QK ao j n ep):=Qc _ (htold 0 (by decide)) rfl;have t1:vs4 1=Qd (QK ao j n ep):=Qc _ (htold 1 (by decide)) rfl;have t3:vs4 3=fnV 76 #[P0 b2,P0 b3]:=Qc _ (htold 3 (by decide)) rfl;have t4:vs4 4= .tuple #[Qd (Vi.vwC z.1),.bool z.2,.int .i64 x]:=Qc _ (htold 4 (by decide)) rfl;have t5:vs4 5=Qd (Vi.vwC z.1):=Qc _ (htold 5 (by decide)) rfl;have t6:vs4 6= .bool z.2:=Qc _ (htold 6 (by decide)) rfl;have t7:vs4 7= .int .i64 x:=Qc _ (htold 7 (by decide)) rfl;have t9:vs4 9= .bool z.2:=Qc _ (htold 9 (by decide)) rfl;have t10:vs4 10= .int .i64 x:=Qc _ (htold 10 (by decide)) rfl;rw [show (List.range 11).map vs4= [vs4 0,vs4 1,vs4 2,vs4 3,vs4 4,vs4 5,vs4 6,vs4 7,vs4 8,vs4 9,vs4 10] from rfl];simp only [t0,t1,t3,t4,t5,t6,t7,t9,t10,Qz,Act.put,List.setIfInBounds_toArray,List.set_cons_succ,List.set_cons_zero];clear t0 t1 t3 t4 t5 t6 t7 t9 t10 htold;obtain⟨hp,-,hE⟩:=hJ.2.1 (hl 4 (by decide));have M9:=hide (hE (hl 8 (by decide)));have HPE:=hide hp;generalize vs4 2=u2;clear hJ hl hE hp M;go_wp2_with fail
 refine bodyPost_ret (res32 _ b4 _ _ _ _ rfl rfl rfl (Qa HLZ) ((Qa M9).at 3 _ rfl)) rfl ?_;exact⟨rfl,(Qa M9).kept,Qa HPE⟩
theorem res34 (w:World) (z:Nat) (vs:List Value) (b:Bool) (e:Int) (tmps:Array Value) (h4:tmps[8]?.getD undef=P0 z) (h5:tmps[9]?.getD undef= .bool b) (h6:tmps[10]?.getD undef= .int .i64 e) (hl:vs.length=19) (hb:Blk w z 29 vs):(results Tryz.f34 tmps).run Tryz.prog w= .ok (.tuple #[Qd vs,.bool b,.int .i64 e]) w:=by
 have h1:=Zq Vi.Qn hl hb;simp [results,Tryz.results34,h4,h5,h6,h1,asAddr]
theorem openW (ao:Option Addr) (o:Option Dv.Dev) (j:Job) (n ep:Int) (w:World) (hw0:0<w.heap.size) (h:Dq w (.pointer ao) o) (Y:List Nat) (z:Vi.Vw×Bool) (x:Int) (P:World→Prop) (hY:∀y∈Y,y<w.heap.size) (hP:∀V V' X,(∀y∈X,w.heap.size≤y)→P V→Kept X V V'→P V') (hz:z.1.ms.length=8)
   (hC:∀(W:World) (v:Value) (base:Nat) (L:List (Value×Int)) (c0 c1 c2 c3:Nat),Kept [] w W→Qr W base v L→L.map Prod.snd= [qa (decide (0<Qs o)) 1,qa (Qu o j) 2,qa (Qt j n) 2,qa (Qx o n ep) 2,qa (!QF o n ep) 8]→Blk W c0 3 [.int .i64 n]→Blk W c1 2 [.int .i64 ep]→Blk W c2 32 [.pointer ao]→Blk W c3 23 (Qf j)→Calls Tryz.prog 74 #[Qd (QK ao j n ep),v,fnV 87 #[P0 c0,P0 c1,P0 c2,P0 c3]] W fun e W'=>e= .returned (.tuple #[Qd (Vi.vwC z.1),.bool z.2,.int .i64 x])∧Kept Y W W'∧P W'):
   Calls Tryz.prog 34 #[.pointer ao,Qd (Qf j),.int .i64 n,.int .i64 ep] w fun e w'=>e= .returned (.tuple #[Qd (Vi.vwC z.1),.bool z.2,.int .i64 x])∧Kept Y w w'∧P w':=by
 have HC:=hide hC;have HY:=hide hY;have HP:=hide hP;have HLZ:=hide (Vi.Qk hz);have HD:=hide h;have HW0:=hide hw0;clear hC hY hP hz h hw0;have M:Hid (Mm [] w w []):=hide Mm.init;go_enter Tryz.func34,Tryz.ntmps34
 go_wp2_with (first |(refine wpBoxP rfl (.tmp 0) rfl ao rfl ?_;intro W1 b1 e1 B1 K1;replace M:=hide ((Qa M).new e1 B1 K1);clear e1 B1 K1;refine Stp.go ?_))
 constructor
 go_wp2_with (first |(refine Qp rfl (.tmp 1) rfl (Qf j) rfl ?_;intro W2 b2 e2 B2 K2;replace M:=hide ((Qa M).new e2 B2 K2);clear e2 B2 K2;refine Stp.go ?_))
 constructor
 go_wp2_with (first |(refine wpBoxI rfl (.tmp 2) rfl n rfl ?_;intro W3 b3 e3 B3 K3;replace M:=hide ((Qa M).new e3 B3 K3);clear e3 B3 K3;refine Stp.go ?_))
 constructor
 go_wp2_with (first |(refine wpBoxI rfl (.tmp 3) rfl ep rfl ?_;intro W4 b4 e4 B4 K4;replace M:=hide ((Qa M).new e4 B4 K4);clear e4 B4 K4;refine Stp.go ?_))
 constructor
 go_wp2_with (first |(refine Qv (Vi.vwC Vi.zv) Vi.QE 8 rfl rfl rfl ?_;intro W5 b5 e5 B5 K5;replace M:=hide ((Qa M).new e5 B5 K5);clear e5 B5 K5;have qn:=Qb ((Qa M).at 2 _ rfl) 0 _ rfl;have qe:=Qb ((Qa M).at 3 _ rfl) 0 _ rfl;have qp:=Qb ((Qa M).at 0 _ rfl) 0 _ rfl;refine Stp.go ?_))
 constructor
 go_wp2_with (first |(refine Qg Zv rfl (.tmp 5) rfl b2 0 rfl (Qf j) rfl ((Qa M).at 1 _ rfl).range ?_;refine Stp.go ?_))
 constructor
 go_wp2_with (first |(refine Zm rfl #[(0,.tmp 12),(1,.tmp 13),(2,.tmp 14),(3,.tmp 15)] rfl #[(0,.pointer ao),(1,Qd (Qf j)),(2,.int .i64 n),(3,.int .i64 ep)] (by kernel_rfl) (QK ao j n ep) (build135 _ ao j n ep) ?_;refine Stp.go ?_))
 constructor
 go_wp2_with (first |(refine QM row135 (QK none job0 0 0) rfl zero135 11 rfl rfl rfl (.tmp 16) rfl rfl rfl (QK ao j n ep) rfl (askC_one _ _ _ _) (by kernel_rfl) (by kernel_rfl) ?_;intro W6 b6 e6 B6 K6;replace M:=hide ((Qa M).new e6 B6 K6);clear e6 B6 K6;clear qn qe qp;refine Stp.go ?_))
 constructor
 go_wp2_with fail
 have HNZ:Hid (w.heap.size≤b5):=mm_new (Qa M) (b5,29,Vi.vwC Vi.zv) (by simp);refine wp_region_any mixed (QL 11 rfl (by kernel_rfl) [some (Qd (QK ao j n ep)),some (Qd (QK ao j n ep)),none,some (fnV 87 #[P0 b3,P0 b4,P0 b1,P0 b2]),some (.tuple #[Qd (Vi.vwC z.1),.bool z.2,.int .i64 x]),some (Qd (Vi.vwC z.1)),some (.bool z.2),some (.int .i64 x),none,some (.bool z.2),some (.int .i64 x)] rfl (by kernel_rfl) (fun l vs W=>(SJ w Y P (fun Z=> [(b1,32,[.pointer ao]),(b2,23,Qf j),(b3,3,[.int .i64 n]),(b4,2,[.int .i64 ep]),(b5,29,Z),(b6,135,QK ao j n ep)]) (Vi.vwC Vi.zv) (Vi.vwC z.1) 2 4 8 [qa (decide (0<Qs o)) 1,qa (Qu o j) 2,qa (Qt j n) 2,qa (Qx o n ep) 2,qa (!QF o n ep) 8]) (fun i=>l.getD i false) vs W) (⟨fun _=>⟨(Qa M).drew,(fun h=>by cases h)⟩,(fun h=>by cases h),(fun h=>by cases h)⟩) ?_ ?_)
 · intro ix o' hi ho a' w2 l vs hls hlf hJ hout hin hdep hnot
   match ix,ho with
   | 0,ho=>
     obtain rfl:=Oj9 ho;have e0:=hout 11 (by kernel_rfl);replace e0:a'.eval (.tmp 11)=_:=e0.trans rfl;obtain⟨hM,-⟩:=hJ.1 (hnot 4 (by kernel_rfl));exact Qw row135 (.tmp 11) rfl b6 0 e0 (QK ao j n ep) rfl (hM.at 5 _ rfl).range ⟨_,rfl,Qe rfl,Le.Qj [2,4,8,5] SJ.loc (by omega) (by decide) hJ⟩
   | 1,ho=>
     obtain rfl:=Oj9 ho;have e0:=hout 11 (by kernel_rfl);replace e0:a'.eval (.tmp 11)=_:=e0.trans rfl;obtain⟨hM,-⟩:=hJ.1 (hnot 4 (by kernel_rfl));exact Qw row135 (.tmp 11) rfl b6 0 e0 (QK ao j n ep) rfl (hM.at 5 _ rfl).range ⟨_,rfl,Qe rfl,Le.Qj [2,4,8,5] SJ.loc (by omega) (by decide) hJ⟩
   | 2,ho=>
     obtain rfl:=Oj9 ho;have e0:a'.eval (.tmp 18)=Qd (QK ao j n ep):=by have h9:=hin 1 18 (by kernel_rfl) (by kernel_rfl);exact h9.1.trans (Qc _ h9.2 rfl)
     obtain⟨hM,-⟩:=hJ.1 (hnot 4 (by kernel_rfl));refine Qq 75 _ _ rfl #[Qd (QK ao j n ep),.slice none 0 0] (by simp [e0];rfl) (cg75 _ _) ((may75 ao o j n ep [] (.slice none 0 0) w2 (Nat.lt_of_lt_of_le (Qa HW0) hM.kept.size) ((Qa HD).kept hM.kept) (.inl ⟨rfl,rfl⟩) (by simp)).mono ?_);rintro e w3 ⟨v,L,rfl,hq,hs,hk3⟩;exact⟨_,rfl,_,rfl,QA rfl,Le.QJ (by omega) (SJ.ask hJ (hnot 4 (by kernel_rfl)) hk3 (by decide) (by decide) hq hs)⟩
   | 3,ho=>
     obtain rfl:=Oj9 ho;have e0:=hout 6 (by kernel_rfl);replace e0:a'.eval (.tmp 6)=_:=e0.trans rfl;have e1:=hout 7 (by kernel_rfl);replace e1:a'.eval (.tmp 7)=_:=e1.trans rfl;have e2:=hout 4 (by kernel_rfl);replace e2:a'.eval (.tmp 4)=_:=e2.trans rfl;have e3:=hout 5 (by kernel_rfl);replace e3:a'.eval (.tmp 5)=_:=e3.trans rfl;have f0:a'.eval (.tmp 6)=P0 b3:=e0;have f1:a'.eval (.tmp 7)=P0 b4:=e1;have f2:a'.eval (.tmp 4)=P0 b1:=e2;have f3:a'.eval (.tmp 5)=P0 b2:=e3;exact o_mkf 87 _ rfl #[P0 b3,P0 b4,P0 b1,P0 b2] (by simp [f0,f1,f2,f3]) ⟨_,rfl,Qe rfl,Le.Qj [2,4,8,5] SJ.loc (by omega) (by decide) hJ⟩
   | 4,ho=>
     obtain rfl:=Oj9 ho;have e0:a'.eval (.tmp 17)=Qd (QK ao j n ep):=by have h9:=hin 0 17 (by kernel_rfl) (by kernel_rfl);exact h9.1.trans (Qc _ h9.2 rfl)
     have e1:a'.eval (.tmp 19)=vs 2:=(hin 2 19 (by kernel_rfl) (by kernel_rfl)).1;have e2:a'.eval (.tmp 20)=fnV 87 #[P0 b3,P0 b4,P0 b1,P0 b2]:=by have h9:=hin 3 20 (by kernel_rfl) (by kernel_rfl);exact h9.1.trans (Qc _ h9.2 rfl)
     obtain⟨hM,hq⟩:=hJ.1 hlf;obtain⟨base,L,hQ,hL⟩:=hq (hdep 2 (by kernel_rfl));refine Qq 74 _ _ rfl #[Qd (QK ao j n ep),vs 2,fnV 87 #[P0 b3,P0 b4,P0 b1,P0 b2]] (by simp [e0,e1,e2]) (cg74 _ _) ((Qa HC w2 (vs 2) base L b3 b4 b1 b2 hM.kept hQ hL (hM.at 2 _ rfl) (hM.at 3 _ rfl) (hM.at 0 _ rfl) (hM.at 1 _ rfl)).mono ?_);rintro e w3 ⟨rfl,kd,hp⟩;exact⟨_,rfl,_,rfl,Qe rfl,Le.QJ (by omega) (SJ.chg hJ hlf (hnot 8 (by kernel_rfl)) (by decide) kd hp (Qa HY))⟩
   | 5,ho=>
     obtain rfl:=Oj9 ho;have e0:a'.eval (.tmp 21)= .tuple #[Qd (Vi.vwC z.1),.bool z.2,.int .i64 x]:=by have h9:=hin 4 21 (by kernel_rfl) (by kernel_rfl);exact h9.1.trans (Qc _ h9.2 rfl)
     exact o_ext (.tmp 21) 0 rfl _ _ e0 rfl ⟨_,rfl,Qe rfl,Le.QJ (by omega) (SJ.ext hJ (hdep 4 (by kernel_rfl)) (by decide) (by decide))⟩
   | 6,ho=>
     obtain rfl:=Oj9 ho;have e0:a'.eval (.tmp 21)= .tuple #[Qd (Vi.vwC z.1),.bool z.2,.int .i64 x]:=by have h9:=hin 4 21 (by kernel_rfl) (by kernel_rfl);exact h9.1.trans (Qc _ h9.2 rfl)
     exact o_ext (.tmp 21) 1 rfl _ _ e0 rfl ⟨_,rfl,Qe rfl,Le.Qj [2,4,8,5] SJ.loc (by omega) (by decide) hJ⟩
   | 7,ho=>
     obtain rfl:=Oj9 ho;have e0:a'.eval (.tmp 21)= .tuple #[Qd (Vi.vwC z.1),.bool z.2,.int .i64 x]:=by have h9:=hin 4 21 (by kernel_rfl) (by kernel_rfl);exact h9.1.trans (Qc _ h9.2 rfl)
     exact o_ext (.tmp 21) 2 rfl _ _ e0 rfl ⟨_,rfl,Qe rfl,Le.Qj [2,4,8,5] SJ.loc (by omega) (by decide) hJ⟩
   | 8,ho=>
     obtain rfl:=Oj9 ho;have e0:=hout 8 (by kernel_rfl);replace e0:a'.eval (.tmp 8)=_:=e0.trans rfl;have e1:a'.eval (.tmp 22)=Qd (Vi.vwC z.1):=by have h9:=hin 5 22 (by kernel_rfl) (by kernel_rfl);exact h9.1.trans (Qc _ h9.2 rfl)
     have hc4:l.getD 4 false=true:=hJ.2.2 (hdep 5 (by kernel_rfl));obtain⟨hp,hm,-⟩:=hJ.2.1 hc4;have hM:=hm hlf;exact Zh Vi.Qn (.tmp 8) (.tmp 22) rfl rfl b5 0 (Vi.vwC z.1) e0 e1 (Qa HLZ) (Vi.Ql _) ((hM.at 4 _ rfl).there (show 0+19≤(Vi.vwC Vi.zv).length by decide)) ⟨undef,rfl,QA rfl,Le.QJ (by omega) (SJ.lay hc4 (by decide) (Qa HP w2 _ [b5] (by simpa using Qa HNZ) hp ((Kept.refl [b5] _).setCells _ _ (by simp))) (hM.sets 4 rfl (Vi.vwC z.1) (by rw [Qa HLZ];rfl)))⟩
   | 9,ho=>
     obtain rfl:=Oj9 ho;have e0:a'.eval (.tmp 23)= .bool z.2:=by have h9:=hin 6 23 (by kernel_rfl) (by kernel_rfl);exact h9.1.trans (Qc _ h9.2 rfl)
     exact QI (.tmp 23) rfl _ e0 ⟨_,rfl,Qe rfl,Le.Qj [2,4,8,5] SJ.loc (by omega) (by decide) hJ⟩
   | 10,ho=>
     obtain rfl:=Oj9 ho;have e0:a'.eval (.tmp 24)= .int .i64 x:=by have h9:=hin 7 24 (by kernel_rfl) (by kernel_rfl);exact h9.1.trans (Qc _ h9.2 rfl)
     exact QI (.tmp 24) rfl _ e0 ⟨_,rfl,Qe rfl,Le.Qj [2,4,8,5] SJ.loc (by omega) (by decide) hJ⟩
 intro l_ vs4 V4 hl hJ htold;have t0:vs4 0=Qd (QK ao j n ep):=Qc _ (htold 0 (by decide)) rfl;have t1:vs4 1=Qd (QK ao j n ep):=Qc _ (htold 1 (by decide)) rfl;have t3:vs4 3=fnV 87 #[P0 b3,P0 b4,P0 b1,P0 b2]:=Qc _ (htold 3 (by decide)) rfl;have t4:vs4 4= .tuple #[Qd (Vi.vwC z.1),.bool z.2,.int .i64 x]:=Qc _ (htold 4 (by decide)) rfl;have t5:vs4 5=Qd (Vi.vwC z.1):=Qc _ (htold 5 (by decide)) rfl;have t6:vs4 6= .bool z.2:=Qc _ (htold 6 (by decide)) rfl;have t7:vs4 7= .int .i64 x:=Qc _ (htold 7 (by decide)) rfl;have t9:vs4 9= .bool z.2:=Qc _ (htold 9 (by decide)) rfl;have t10:vs4 10= .int .i64 x:=Qc _ (htold 10 (by decide)) rfl;rw [show (List.range 11).map vs4= [vs4 0,vs4 1,vs4 2,vs4 3,vs4 4,vs4 5,vs4 6,vs4 7,vs4 8,vs4 9,vs4 10] from rfl];simp only [t0,t1,t3,t4,t5,t6,t7,t9,t10,Qz,Act.put,List.setIfInBounds_toArray,List.set_cons_succ,List.set_cons_zero];clear t0 t1 t3 t4 t5 t6 t7 t9 t10 htold;obtain⟨hp,-,hE⟩:=hJ.2.1 (hl 4 (by decide));have M9:=hide (hE (hl 8 (by decide)));have HPE:=hide hp;generalize vs4 2=u2;clear hJ hl hE hp M;go_wp2_with fail
 refine bodyPost_ret (res34 _ b5 _ _ _ _ rfl rfl rfl (Qa HLZ) ((Qa M9).at 4 _ rfl)) rfl ?_;exact⟨rfl,(Qa M9).kept,Qa HPE⟩
open Go.RowKit
open Le (Mm Qh Qo)
theorem res76 (w:World) (z:Nat) (vs:List Value) (e:Int) (tmps:Array Value) (h4:tmps[4]?.getD undef=P0 z) (h5:tmps[5]?.getD undef= .int .i64 e) (hl:vs.length=19) (hb:Blk w z 29 vs):(results Tryz.f76 tmps).run Tryz.prog w= .ok (.tuple #[Qd vs,.int .i64 e]) w:=by
 have h1:=Zq Vi.Qn hl hb;simp [results,Tryz.results76,h4,h5,h1,asAddr]
theorem next_ok {v:Vi.Vw} {f n:Int} {m:Bool×Int} (hv:v.Ok) (hn:0≤v.nu∧v.nu≤4611686018427387904) (hf:Vi.isNo f=true) (hm:Vi.I64 m.2):(Vi.nextV v f n m).1.Ok:=by
 have hf:0≤f∧f<8:=by simpa [Vi.isNo] using hf
 unfold Vi.nextV;split
 · exact Vi.zv_ok
 · refine⟨?_,?_,?_,?_⟩
   · simp only [Vi.I64];omega
   · simp only [Vi.I64];omega
   · simp [hv.len]
   · intro q hq;rcases List.mem_or_eq_of_mem_set hq with hq | rfl
     · exact hv.ep q hq
     · exact hm
theorem joinV_ok {v:Vi.Vw} (hv:v.Ok) (n e:Int):(Vi.joinV v n e).1.Ok:=by
 unfold Vi.joinV;split
 · exact Vi.zv_ok
 · rename_i h;split
   · exact Vi.zv_ok
   · simp only [Bool.not_eq_false,Bool.and_eq_true] at h;obtain⟨h1,h2,h3⟩:=h;have h3:1≤e∧e≤2147483647:=by simpa [Vi.isEp] using h3
     exact next_ok hv (Vi.may_nu h1) h2 (by simp only [Vi.I64];omega)
theorem outV_ok {v:Vi.Vw} (hv:v.Ok) (f n:Int):(Vi.outV v f n).1.Ok:=by
 unfold Vi.outV;split
 · exact Vi.zv_ok
 · rename_i h;split
   · exact Vi.zv_ok
   · simp only [Bool.not_eq_false,Bool.and_eq_true] at h;obtain⟨h1,h2,h3⟩:=h;exact next_ok hv (Vi.may_nu h1) h2 (by simp only [Vi.I64];omega)
theorem openV_ok {v:Vi.Vw} (hv:v.Ok):(Vi.openV v).1.Ok:=by
 unfold Vi.openV;split
 · exact Vi.zv_ok
 · split
   · exact Vi.zv_ok
   · exact⟨hv.nu,hv.fd,hv.len,hv.ep⟩
theorem do76 (c0 c1:Nat) (n ep:Int) (v:Vi.Vw) (w:World) (hF:Vi.First w) (hv:v.Ok) (C0:Blk w c0 3 [.int .i64 n]) (C1:Blk w c1 2 [.int .i64 ep]):Calls Tryz.prog 76 #[Qd (Vi.vwC v),P0 c0,P0 c1] w fun e w'=>e= .returned (.tuple #[Qd (Vi.vwC (Vi.joinV v n ep).1),.int .i64 (Vi.joinV v n ep).2])∧Kept [] w w':=by
 have PJ:∀W,Kept [] w W→Hid (Calls Tryz.prog 77 #[Qd (Vi.vwC v),.int .i64 n,.int .i64 ep] W fun x w'=>x= .returned (.tuple #[Qd (Vi.vwC (Vi.joinV v n ep).1),.int .i64 (Vi.joinV v n ep).2])∧Kept [] W w'):=fun W hW=>hide (Vi.join16 v n ep W (hF.kept hW) hv);have hl:=Vi.Qk (joinV_ok hv n ep).len;have HL:=hide (Vi.Qk hv.len);have HC0:=hide C0;have HC1:=hide C1;obtain⟨⟨u,uc⟩,hu⟩:∃r,Vi.joinV v n ep=r:=⟨_,rfl⟩;rw [hu] at PJ hl⊢;have HU:=hide hl;clear C0 C1 hF hv hl hu;have M:Hid (Mm [] w w []):=hide Mm.init;go_enter Tryz.func76,Tryz.ntmps76
 go_wp2_with (first |(refine Qp rfl (.tmp 0) rfl (Vi.vwC v) rfl ?_;intro W1 b1 e1 B1 K1;replace M:=hide ((Qa M).new e1 B1 K1);clear e1 B1 K1;refine Stp.go ?_))
 constructor
 go_wp2_with (first |(refine Qv (Vi.vwC Vi.zv) Vi.QE 4 rfl rfl rfl ?_;intro W2 b2 e2 B2 K2;replace M:=hide ((Qa M).new e2 B2 K2);clear e2 B2 K2;have qn:=Qb ((Qa HC0).kept (Qa M).kept (by simp)) 0 _ rfl;have qe:=Qb ((Qa HC1).kept (Qa M).kept (by simp)) 0 _ rfl;refine Stp.go ?_))
 constructor
 go_wp2_with (first |(refine Qg Vi.Qn rfl (.tmp 3) rfl b1 0 rfl (Vi.vwC v) (Qa HL) ((Qa M).at 0 _ rfl).range ?_;refine Stp.go ?_))
 constructor
 go_wp2_with (first |(go_at_call 77;refine(Qa (PJ _ (Qa M).kept)).mono ?_;rintro e W3 ⟨rfl,K3⟩;replace M:=hide ((Qa M).step K3);clear K3;clear qn qe;refine Stp.go ?_))
 constructor
 go_wp2_with (first |(refine Qh Vi.Qn rfl (.tmp 4) (.tmp 10) rfl rfl b2 1 (Vi.vwC u) rfl rfl (Qa HU) (Vi.Ql _) (Qa M) rfl rfl ?_;intro W4 N4;replace M:Hid (Mm [] w W4 [(b1,29,Vi.vwC v),(b2,29,Vi.vwC u)]):=hide N4;clear N4;refine Stp.go ?_))
 constructor
 go_wp2_with fail
 refine bodyPost_ret (res76 _ b2 _ _ _ rfl rfl (Qa HU) ((Qa M).at 1 _ rfl)) rfl ?_;exact⟨rfl,(Qa M).kept⟩
def asks (o:Option Dv.Dev) (j:Job) (n ep:Int) (more:List Int):List Int:= [qa (decide (0<Qs o)) 1,qa (Qu o j) 2,qa (Qt j n) 2,qa (Qx o n ep) 2]++more++ [qa (!QF o n ep) 8]
theorem first0_app {A B:List Int} (h:first0 (A++B)=0):first0 A=0∧first0 B=0:=by
 induction A with
 | nil=>exact ⟨rfl,h⟩
 | cons x A ih=>
  obtain⟨h1,h2⟩:=QS h;obtain⟨h3,h4⟩:=ih h2;exact⟨by rw [first0,if_pos h1];exact h3,h4⟩
theorem asks_yes {b g:Nat} {D:Dv.Dev} {w:World} {j:Job} {n ep:Int} {more:List Int} (h:Dv.Dv w b g D) (h0:first0 (asks (some D) j n ep more)=0):j.may=true∧j.p*2+(j.L+9)≤D.S.length∧j.n≤D.N∧0≤n∧n<j.n∧1≤ep∧ep=D.ep n∧first0 more=0:=by
 unfold asks at h0;obtain⟨h1,h2⟩:=first0_app h0;obtain⟨h1,hmore⟩:=first0_app h1;obtain⟨q1,h1⟩:=QS h1;obtain⟨q2,h1⟩:=QS h1;obtain⟨q3,h1⟩:=QS h1;obtain⟨q4,-⟩:=QS h1;obtain⟨q5,-⟩:=QS h2;obtain⟨b',g',D',e,-,-,hm,hS,hN⟩:=fits_dev (o:=some D) (p:=P0 b) ⟨b,g,rfl,h⟩ q1 q2;injection e with e;subst e;have q3:=qa_zero (by decide) q3;have q4:=qa_zero (by decide) q4;have q5:=qa_zero (by decide) q5;simp only [Qt,Bool.and_eq_true,decide_eq_true_eq] at q3;simp only [Qx,Bool.and_eq_true,decide_eq_true_eq] at q4;have hN':Dv.hasN D.N n=true:=by simp [Dv.hasN];omega
 have e4:(oEpoch (some D) n).1=D.ep n:=by show(D.epoch n).1=_;unfold Dv.Dev.epoch;rw [if_pos hN']
 rw [e4] at q4;simp only [QF,Dv.Dev.fenced,hN',Bool.true_and,Bool.not_eq_true',decide_eq_false_iff_not] at q5;exact⟨hm,hS,hN,q3.1,q3.2,q4.1,by omega,hmore⟩
def oV (D:Dv.Dev):Vi.Vw×Int:=Vi.getV (D.S.getD 0 Dv.nought)
def mcall (D:Dv.Dev) (j:Job) (n ep:Int) (more:List Int) (r:(Vi.Vw×Int)×Dv.Dev):(Vi.Vw×Bool)×Int×Dv.Dev:=
 if first0 (asks (some D) j n ep more)=0 then mchg D n ep (oV D) r else ((Vi.zv,false),first0 (asks (some D) j n ep more),D)
theorem oV_ok {b g:Nat} {D:Dv.Dev} {w:World} (h:Dv.Dv w b g D):(oV D).1.Ok:=getV_ok _ (sec_byts (read_at h.ok (n:=0) h.ok.s0).2)
theorem mcall_len {b g:Nat} {D:Dv.Dev} {w:World} (h:Dv.Dv w b g D) (j:Job) (n ep:Int) (more:List Int) (r:(Vi.Vw×Int)×Dv.Dev) (hr:r.1.1.ms.length=8):(mcall D j n ep more r).1.1.ms.length=8:=by
 unfold mcall;split
 · exact mchg_len _ _ _ _ _ (oV_ok h).len hr
 · rfl
theorem chg_dev (b g:Nat) (D:Dv.Dev) (j:Job) (n ep:Int) (more:List Int) (r:(Vi.Vw×Int)×Dv.Dev) (u:Value) (f:FuncId) (cs:Array Value) (w:World) (base:Nat) (L:List (Value×Int)) (hL:Qr w base u L) (hs:L.map Prod.snd=asks (some D) j n ep more) (hmo:more.length≤50) (h:Dv.Dv w b g D) (hF:Vi.First w) (hr:r.1.1.Ok) (hent:Ent f)
   (hbec:first0 (asks (some D) j n ep more)=0→(oV D).2=0→∀V,Kept [] w V→Calls Tryz.prog f (#[Qd (Vi.vwC (oV D).1)]++cs) V fun e V'=>e= .returned (.tuple #[Qd (Vi.vwC r.1.1),.int .i64 r.1.2])∧Dv.Dv V' b g r.2∧Kept [b,g] V V'):
   Calls Tryz.prog 74 #[Qd (QK (some ⟨b,0,none⟩) j n ep),u,fnV f cs] w fun e w'=>e= .returned (.tuple #[Qd (Vi.vwC (mcall D j n ep more r).1.1),.bool (mcall D j n ep more r).1.2,.int .i64 (mcall D j n ep more r).2.1])∧Kept [b,g] w w'∧Dv.Dv w' b g (mcall D j n ep more r).2.2:=by
 have hl:L.length=4+more.length+1:=by
   have:=congrArg List.length hs;simp [asks] at this;omega
 unfold mcall;split
 · rename_i h0;exact change_yes b g D j n ep u f cs w base L hL (by omega) (by omega) (by rw [hs];exact h0) h hF (asks_yes h h0).1 (oV D) rfl r hr hent (hbec h0)
 · rename_i h0;refine(change_no (some ⟨b,0,none⟩) j n ep u f cs w base L hL (by omega) (by omega) _ (by rw [hs]) h0).mono ?_;rintro e w' ⟨rfl,hk⟩;exact⟨rfl,hk.mono (by simp),h.kept hk (by simp) (by simp)⟩
def mjoin (D:Dv.Dev) (j:Job) (n ep:Int):(Vi.Vw×Bool)×Int×Dv.Dev:=mcall D j n ep [] (Vi.joinV (oV D).1 n ep,D)
theorem dv_stay {b g:Nat} {D:Dv.Dev} {w:World} (h:b<w.heap.size∧g<w.heap.size):∀V V' X,(∀y∈X,w.heap.size≤y)→Dv.Dv V b g D→Kept X V V'→Dv.Dv V' b g D:=
 fun V V' X hX hd hk=>hd.kept hk (fun e=>by have:=hX _ e;omega) (fun e=>by have:=hX _ e;omega)
theorem join32 (b g:Nat) (D:Dv.Dev) (j:Job) (n ep:Int) (w:World) (h:Dv.Dv w b g D) (hF:Vi.First w):
  Calls Tryz.prog 32 #[P0 b,Qd (Qf j),.int .i64 n,.int .i64 ep] w fun e w'=>e= .returned (.tuple #[Qd (Vi.vwC (mjoin D j n ep).1.1),.bool (mjoin D j n ep).1.2,.int .i64 (mjoin D j n ep).2.1])∧Kept [b,g] w w'∧Dv.Dv w' b g (mjoin D j n ep).2.2:=by
 have hlt:=h.lt;have hok:=joinV_ok (oV_ok h) n ep;refine joinW (some ⟨b,0,none⟩) (some D) j n ep w hF.lt ⟨b,g,rfl,h⟩ [b,g] (mjoin D j n ep).1 (mjoin D j n ep).2.1 (fun V=>Dv.Dv V b g (mjoin D j n ep).2.2) (by simp;omega) (dv_stay hlt) (mcall_len h _ _ _ _ _ hok.len) ?_;intro W v base L c0 c1 hW hL hs C0 C1;refine chg_dev b g D j n ep [] (Vi.joinV (oV D).1 n ep,D) v 76 _ W base L hL hs (by simp) (h.kept hW (by simp) (by simp)) (hF.kept hW) hok ent76 ?_;intro _ _ V hV;have hwV:=hW.trans hV;refine(do76 c0 c1 n ep (oV D).1 V (hF.kept hwV) (oV_ok h) (C0.kept hV (by simp)) (C1.kept hV (by simp))).mono ?_;rintro e V' ⟨rfl,hk⟩;exact⟨rfl,h.kept (hwV.trans hk) (by simp) (by simp),hk.mono (by simp)⟩
open Go.RowKit
open Le (Mm Qh Qo)
theorem ent79:Ent 79:=fun _ _=>by kernel_rfl
theorem ent80:Ent 80:=fun _ _=>by kernel_rfl
theorem ent81:Ent 81:=fun _ _=>by kernel_rfl
theorem ent83:Ent 83:=fun _ _=>by kernel_rfl
theorem ent85:Ent 85:=fun _ _=>by kernel_rfl
theorem cg86 (vs:Array Value) (w:World):(callFunc 86 vs).run Tryz.prog w= .ok (.enter 86 vs) w:=by kernel_rfl
theorem do79 (c0 c1:Nat) (who n:Int) (w:World) (C0:Blk w c0 3 [.int .i64 who]) (C1:Blk w c1 3 [.int .i64 n]):Calls Tryz.prog 79 #[P0 c0,P0 c1] w fun r w'=>r= .returned (.bool (decide (who≠n)))∧Kept [] w w':=by
 have q0:=Qb C0 0 _ rfl;have q1:=Qb C1 0 _ rfl;clear C0 C1;by_cases h:who=n
 · have hd:(who == n)=true:=by simpa using h
   have hn:(who !=n)=false:=by simpa using h
   go_enter Tryz.func79,Tryz.ntmps79
   go_wp2
   go_ret
   exact⟨QB (by simp [h]),Kept.refl _ _⟩
 · have hd:(who == n)=false:=by simpa using h
   have hn:(who !=n)=true:=by simpa using h
   go_enter Tryz.func79,Tryz.ntmps79
   go_wp2
   go_ret
   exact⟨QB (by simp [h]),Kept.refl _ _⟩
theorem do81 (c0 c1 c2:Nat) (v:Vi.Vw) (n ep:Int) (w:World) (hF:Vi.First w) (hv:v.ms.length=8) (C0:Blk w c0 29 (Vi.vwC v)) (C1:Blk w c1 3 [.int .i64 n]) (C2:Blk w c2 2 [.int .i64 ep]):Calls Tryz.prog 81 #[P0 c0,P0 c1,P0 c2] w fun r w'=>r= .returned (.bool (v.is n ep))∧Kept [] w w':=by
 have q1:=Qb C1 0 _ rfl;have q2:=Qb C2 0 _ rfl;have P:=hide (Vi.is25 v n ep w hF hv);have HL:=hide (Vi.Qk hv);have HC0:=hide C0;clear C0 C1 C2 hF hv;go_enter Tryz.func81,Tryz.ntmps81
 go_wp2_with (first |(refine Qg Vi.Qn rfl (.tmp 0) rfl c0 0 rfl (Vi.vwC v) (Qa HL) (Qa HC0).range ?_;refine Stp.go ?_))
 constructor
 go_wp2_with (first |(go_at_call 82;refine(Qa P).mono ?_;rintro e W ⟨rfl,K1⟩;have HK:=hide K1;clear K1))
 go_ret
 exact⟨rfl,Qa HK⟩
theorem do83 (c0 c1 c2 c3:Nat) (v z:Vi.Vw) (n who:Int) (w:World) (hF:Vi.First w) (hv:v.Ok) (hz:z.ms.length=8) (C0:Blk w c0 29 (Vi.vwC v)) (C1:Blk w c1 3 [.int .i64 n]) (C2:Blk w c2 3 [.int .i64 who]) (C3:Blk w c3 29 (Vi.vwC z)):Calls Tryz.prog 83 #[P0 c0,P0 c1,P0 c2,P0 c3] w fun r w'=>r= .returned (.int .i64 (Vi.outV v n who).2)∧Blk w' c3 29 (Vi.vwC (Vi.outV v n who).1)∧Kept [c3] w w':=by
 have q1:=Qb C1 0 _ rfl;have q2:=Qb C2 0 _ rfl;have PO:=hide (Vi.out18 v n who w hF hv);have hl:=Vi.Qk (outV_ok hv n who).len;have HL:=hide (Vi.Qk hv.len);have HZ:=hide (Vi.Qk hz);have HC0:=hide C0;obtain⟨⟨u,uc⟩,hu⟩:∃r,Vi.outV v n who=r:=⟨_,rfl⟩;rw [hu] at PO hl⊢;have HU:=hide hl;have M:Hid (Mm [c3] w w [(c3,29,Vi.vwC z)]):=hide (Le.Mm.one C3);clear C0 C1 C2 C3 hF hv hz hl hu;go_enter Tryz.func83,Tryz.ntmps83
 go_wp2_with (first |(refine Qg Vi.Qn rfl (.tmp 0) rfl c0 0 rfl (Vi.vwC v) (Qa HL) (Qa HC0).range ?_;refine Stp.go ?_))
 constructor
 go_wp2_with (first |(go_at_call 84;refine(Qa PO).mono ?_;rintro e W1 ⟨rfl,K1⟩;replace M:=hide ((Qa M).step K1);clear K1;clear q1 q2;refine Stp.go ?_))
 constructor
 go_wp2_with (first |(refine Qh Vi.Qn rfl (.tmp 3) (.tmp 10) rfl rfl c3 0 (Vi.vwC u) rfl rfl (Qa HU) (Vi.Ql _) (Qa M) rfl (Qa HZ) ?_;intro W2 N2;replace M:Hid (Mm [c3] w W2 [(c3,29,Vi.vwC u)]):=hide N2;clear N2;refine Stp.go ?_))
 constructor
 go_wp2_with fail
 go_ret
 exact⟨rfl,(Qa M).at 0 _ rfl,(Qa M).kept⟩
theorem o_fld26m {o:Oper} {a:Act} {w:World} {K:Act→World→Prop} {Q:Exit→Act→World→Prop} (x:Operand) (ho:o.op= .fieldAddr 26 x 1) (b i:Nat) (hx:a.eval x= .pointer (some ⟨b,i,none⟩)) (h:K (a.put o.dst (.pointer (some ⟨b,i+1,none⟩))) w):o.wp Tryz.prog a w K Q:=by
 unfold Oper.wp execOp;simp only [ho,hx];simp [go_sem,Addr.add_lit];exact h
@[reducible] def SF (w:World) (R:World→Prop) (c:Nat) (d:Nat→Bool) (_:Nat→Value) (W:World):Prop:=(d c=false→Kept [] w W)∧(d c=true→R W)
theorem SF.loc {w:World} {R:World→Prop} {c:Nat} :∀d d' vs vs' W,(∀i∈ [c],d i=d' i∧vs i=vs' i)→SF w R c d vs W→SF w R c d' vs' W:=by
 intro d d' vs vs' W H h;have e:=H c (by simp);unfold SF at h⊢;rw [← e.1];exact h
theorem do85 (c0 c1 c2 c3 c4 b g:Nat) (D:Dv.Dev) (v:Vi.Vw) (n ep:Int) (k:Nat) (hk8:k<8) (w:World) (hv:v.ms.length=8) (C0:Blk w c0 32 [P0 b]) (C1:Blk w c1 3 [.int .i64 n]) (C2:Blk w c2 2 [.int .i64 ep]) (C3:Blk w c3 3 [.int .i64 (k:Nat)]) (C4:Blk w c4 29 (Vi.vwC v)) (h:Dv.Dv w b g D):Calls Tryz.prog 85 #[P0 c0,P0 c1,P0 c2,P0 c3,P0 c4] w fun r w'=>r= .returned (.int .i64 (D.fence n ep (k:Nat) (v.mem (k:Nat)).2).1)∧Dv.Dv w' b g (D.fence n ep (k:Nat) (v.mem (k:Nat)).2).2∧Kept [b,g] w w':=by
 have HK8:=hide hk8;have HC0:=hide C0;have HC1:=hide C1;have HC2:=hide C2;have HC3:=hide C3;have HC4:=hide C4;have HV:=hide hv;have HD:=hide h;clear hk8 C0 C1 C2 C3 C4 hv h;go_enter Tryz.func85,Tryz.ntmps85
 go_wp2_with fail
 refine wp_region_any mixed (QL 11 rfl (by kernel_rfl) [some (P0 b),some (.int .i64 n),some (.int .i64 ep),some (.int .i64 (k:Nat)),some (.int .i64 (k:Nat)),some (.pointer (some ⟨c4,3,none⟩)),some (.pointer (some ⟨c4,3+k*2,none⟩)),some (.pointer (some ⟨c4,3+k*2+1,none⟩)),some (.int .i64 (v.mem (k:Nat)).2),some (.int .i64 (D.fence n ep (k:Nat) (v.mem (k:Nat)).2).1),some (.int .i64 (D.fence n ep (k:Nat) (v.mem (k:Nat)).2).1)] rfl (by kernel_rfl) (fun l vs W=>(SF w (fun V=>Dv.Dv V b g (D.fence n ep (k:Nat) (v.mem (k:Nat)).2).2∧Kept [b,g] w V) 9) (fun i=>l.getD i false) vs W) (⟨fun _=>(Kept.refl _ _).drew,fun h=>by cases h⟩) ?_ ?_)
 · intro ix o' hi ho a' w2 l vs hls hlf hJ hout hin hdep hnot
   match ix,ho with
   | 0,ho=>
    obtain rfl:=Oj9 ho;have e0:=hout 0 (by kernel_rfl);replace e0:a'.eval (.tmp 0)=_:=e0.trans rfl;exact Zz (.tmp 0) rfl _ _ e0 (Qb ((Qa HC0).kept (hJ.1 (hnot 9 (by kernel_rfl))) (by simp)) 0 _ rfl) ⟨_,rfl,Qe rfl,Le.Qj [9] SF.loc (by omega) (by decide) hJ⟩
   | 1,ho=>
    obtain rfl:=Oj9 ho;have e0:=hout 1 (by kernel_rfl);replace e0:a'.eval (.tmp 1)=_:=e0.trans rfl;exact Ar.Zx (.tmp 1) rfl _ _ e0 (Qb ((Qa HC1).kept (hJ.1 (hnot 9 (by kernel_rfl))) (by simp)) 0 _ rfl) ⟨_,rfl,Qe rfl,Le.Qj [9] SF.loc (by omega) (by decide) hJ⟩
   | 2,ho=>
    obtain rfl:=Oj9 ho;have e0:=hout 2 (by kernel_rfl);replace e0:a'.eval (.tmp 2)=_:=e0.trans rfl;exact Za (.tmp 2) rfl _ _ e0 (Qb ((Qa HC2).kept (hJ.1 (hnot 9 (by kernel_rfl))) (by simp)) 0 _ rfl) ⟨_,rfl,Qe rfl,Le.Qj [9] SF.loc (by omega) (by decide) hJ⟩
   | 3,ho=>
    obtain rfl:=Oj9 ho;have e0:=hout 3 (by kernel_rfl);replace e0:a'.eval (.tmp 3)=_:=e0.trans rfl;exact Ar.Zx (.tmp 3) rfl _ _ e0 (Qb ((Qa HC3).kept (hJ.1 (hnot 9 (by kernel_rfl))) (by simp)) 0 _ rfl) ⟨_,rfl,Qe rfl,Le.Qj [9] SF.loc (by omega) (by decide) hJ⟩
   | 4,ho=>
    obtain rfl:=Oj9 ho;have e0:=hout 3 (by kernel_rfl);replace e0:a'.eval (.tmp 3)=_:=e0.trans rfl;exact Ar.Zx (.tmp 3) rfl _ _ e0 (Qb ((Qa HC3).kept (hJ.1 (hnot 9 (by kernel_rfl))) (by simp)) 0 _ rfl) ⟨_,rfl,Qe rfl,Le.Qj [9] SF.loc (by omega) (by decide) hJ⟩
   | 5,ho=>
    obtain rfl:=Oj9 ho;have e0:=hout 4 (by kernel_rfl);replace e0:a'.eval (.tmp 4)=_:=e0.trans rfl;exact Vi.ZE (.tmp 4) rfl c4 e0 ⟨_,rfl,Qe rfl,Le.Qj [9] SF.loc (by omega) (by decide) hJ⟩
   | 6,ho=>
    obtain rfl:=Oj9 ho;have e0:a'.eval (.tmp 11)= .pointer (some ⟨c4,3,none⟩):=by have h9:=hin 5 11 (by kernel_rfl) (by kernel_rfl);exact h9.1.trans (Qc _ h9.2 rfl)
    have e1:a'.eval (.tmp 10)= .int .i64 (k:Nat):=by have h9:=hin 4 10 (by kernel_rfl) (by kernel_rfl);exact h9.1.trans (Qc _ h9.2 rfl)
    exact Vi.o_idx24 (.tmp 11) (.tmp 10) rfl c4 k (Qa HK8) e0 e1 ⟨_,rfl,Qe rfl,Le.Qj [9] SF.loc (by omega) (by decide) hJ⟩
   | 7,ho=>
    obtain rfl:=Oj9 ho;have e0:a'.eval (.tmp 12)= .pointer (some ⟨c4,3+k*2,none⟩):=by have h9:=hin 6 12 (by kernel_rfl) (by kernel_rfl);exact h9.1.trans (Qc _ h9.2 rfl)
    exact o_fld26m (.tmp 12) rfl c4 (3+k*2) e0 ⟨_,rfl,Qe rfl,Le.Qj [9] SF.loc (by omega) (by decide) hJ⟩
   | 8,ho=>
    obtain rfl:=Oj9 ho;have e0:a'.eval (.tmp 13)= .pointer (some ⟨c4,3+k*2+1,none⟩):=by have h9:=hin 7 13 (by kernel_rfl) (by kernel_rfl);exact h9.1.trans (Qc _ h9.2 rfl)
    have hm:=(((Qa HC4).kept (hJ.1 (hnot 9 (by kernel_rfl))) (by simp)).mem (Qa HV) (n:=(k:Nat)) (by omega) (by have:=Qa HK8;omega)).2;exact Za (.tmp 13) rfl _ _ e0 hm ⟨_,rfl,Qe rfl,Le.Qj [9] SF.loc (by omega) (by decide) hJ⟩
   | 9,ho=>
    obtain rfl:=Oj9 ho;have e0:a'.eval (.tmp 6)=P0 b:=by have h9:=hin 0 6 (by kernel_rfl) (by kernel_rfl);exact h9.1.trans (Qc _ h9.2 rfl)
    have e1:a'.eval (.tmp 7)= .int .i64 n:=by have h9:=hin 1 7 (by kernel_rfl) (by kernel_rfl);exact h9.1.trans (Qc _ h9.2 rfl)
    have e2:a'.eval (.tmp 8)= .int .i64 ep:=by have h9:=hin 2 8 (by kernel_rfl) (by kernel_rfl);exact h9.1.trans (Qc _ h9.2 rfl)
    have e3:a'.eval (.tmp 9)= .int .i64 (k:Nat):=by have h9:=hin 3 9 (by kernel_rfl) (by kernel_rfl);exact h9.1.trans (Qc _ h9.2 rfl)
    have e4:a'.eval (.tmp 14)= .int .i64 (v.mem (k:Nat)).2:=by have h9:=hin 8 14 (by kernel_rfl) (by kernel_rfl);exact h9.1.trans (Qc _ h9.2 rfl)
    have hk:=hJ.1 hlf;refine Qq 86 _ _ rfl #[P0 b,.int .i64 n,.int .i64 ep,.int .i64 (k:Nat),.int .i64 (v.mem (k:Nat)).2] (by simp [e0,e1,e2,e3,e4]) (cg86 _ _) ((Dv.fence24 b g D n ep (k:Nat) (v.mem (k:Nat)).2 w2 ((Qa HD).kept hk (by simp) (by simp))).mono ?_);rintro e w3 ⟨rfl,hd,kd⟩;exact⟨_,rfl,_,rfl,Qe rfl,Le.QJ (by omega) ⟨(fun h=>by cases h),fun _=>⟨hd,(hk.mono (by simp)).trans kd⟩⟩⟩
   | 10,ho=>
    obtain rfl:=Oj9 ho;have e0:a'.eval (.tmp 15)= .int .i64 (D.fence n ep (k:Nat) (v.mem (k:Nat)).2).1:=by have h9:=hin 9 15 (by kernel_rfl) (by kernel_rfl);exact h9.1.trans (Qc _ h9.2 rfl)
    exact QI (.tmp 15) rfl _ e0 ⟨_,rfl,Qe rfl,Le.Qj [9] SF.loc (by omega) (by decide) hJ⟩
 intro l_ vs4 V4 hl hJ htold;have t0:vs4 0=P0 b:=Qc _ (htold 0 (by decide)) rfl;have t1:vs4 1= .int .i64 n:=Qc _ (htold 1 (by decide)) rfl;have t2:vs4 2= .int .i64 ep:=Qc _ (htold 2 (by decide)) rfl;have t3:vs4 3= .int .i64 (k:Nat):=Qc _ (htold 3 (by decide)) rfl;have t4:vs4 4= .int .i64 (k:Nat):=Qc _ (htold 4 (by decide)) rfl;have t5:vs4 5= .pointer (some ⟨c4,3,none⟩):=Qc _ (htold 5 (by decide)) rfl;have t6:vs4 6= .pointer (some ⟨c4,3+k*2,none⟩):=Qc _ (htold 6 (by decide)) rfl;have t7:vs4 7= .pointer (some ⟨c4,3+k*2+1,none⟩):=Qc _ (htold 7 (by decide)) rfl;have t8:vs4 8= .int .i64 (v.mem (k:Nat)).2:=Qc _ (htold 8 (by decide)) rfl;have t9:vs4 9= .int .i64 (D.fence n ep (k:Nat) (v.mem (k:Nat)).2).1:=Qc _ (htold 9 (by decide)) rfl;have t10:vs4 10= .int .i64 (D.fence n ep (k:Nat) (v.mem (k:Nat)).2).1:=Qc _ (htold 10 (by decide)) rfl;rw [show (List.range 11).map vs4= [vs4 0,vs4 1,vs4 2,vs4 3,vs4 4,vs4 5,vs4 6,vs4 7,vs4 8,vs4 9,vs4 10] from rfl];simp only [t0,t1,t2,t3,t4,t5,t6,t7,t8,t9,t10,Qz,Act.put,List.setIfInBounds_toArray,List.set_cons_succ,List.set_cons_zero];clear t0 t1 t2 t3 t4 t5 t6 t7 t8 t9 t10 htold;have hE:=hide (hJ.2 (hl 9 (by decide)));clear hJ hl;go_wp2_with fail
 go_ret
 exact⟨rfl,(Qa hE).1,(Qa hE).2⟩
def mout (D:Dv.Dev) (v:Vi.Vw) (n ep who:Int):(Vi.Vw×Int)×Dv.Dev:=
 if v.is n ep=true then (if (Vi.outV v n who).2=0 then (((Vi.outV v n who).1,(D.fence n ep who (v.mem who).2).1),(D.fence n ep who (v.mem who).2).2) else (Vi.outV v n who,D)) else ((Vi.zv,6),D)
theorem mout_ok {D:Dv.Dev} {v:Vi.Vw} (hv:v.Ok) (n ep who:Int):(mout D v n ep who).1.1.Ok:=by
 unfold mout;split
 · split
   · exact outV_ok hv n who
   · exact outV_ok hv n who
 · exact Vi.zv_ok
theorem outV_no {v:Vi.Vw} {f n:Int} (h:(Vi.outV v f n).2=0):0≤n∧n<8:=by
 unfold Vi.outV at h;split at h
 · simp at h
 · rename_i h1;simp only [Bool.not_eq_false,Bool.and_eq_true] at h1;simpa [Vi.isNo] using h1.2.2.1
open Go.RowKit
open Le (Mm Qh Qo)
section
variable {ops:Array Oper} {rest:List Oper} {op:Oper} {a:Act} {w:World} {Q:Exit→Act→World→Prop}
theorem wpBs3F (hgd:op.guard=none) (x y z:Operand) (ho:op.op= .buildSlice 95 3 #[(0,x),(1,y),(2,z)]) (f g k:FuncId) (cs ds es:Array Value) (hx:a.eval x=fnV f cs) (hy:a.eval y=fnV g ds) (hz:a.eval z=fnV k es)
  (h:∀W b,b=w.heap.size→Blk W b 92 [fnV f cs,fnV g ds,fnV k es]→Kept [] w W→wpList Tryz.prog ops Q rest (a.put op.dst (.slice (some ⟨b,0,none⟩) 3 3)) W):wpList Tryz.prog ops Q (op::rest) a w:=
 wpList_plain hgd fun K hK=>by
  unfold Oper.wp execOp;simp only [ho,List.map_toArray,List.map_cons,List.map_nil,hx,hy,hz,Sem.run_bind,bs95_3,Result.andThen_ok];exact hK _ _ (h _ _ rfl (Blk.new w 92 _) ((Kept.refl _ _).alloc _))
theorem wpBs4F (hgd:op.guard=none) (x y z s:Operand) (ho:op.op= .buildSlice 95 4 #[(0,x),(1,y),(2,z),(3,s)]) (f g k m:FuncId) (cs ds es gs:Array Value) (hx:a.eval x=fnV f cs) (hy:a.eval y=fnV g ds) (hz:a.eval z=fnV k es) (hs:a.eval s=fnV m gs)
  (h:∀W b,b=w.heap.size→Blk W b 92 [fnV f cs,fnV g ds,fnV k es,fnV m gs]→Kept [] w W→wpList Tryz.prog ops Q rest (a.put op.dst (.slice (some ⟨b,0,none⟩) 4 4)) W):wpList Tryz.prog ops Q (op::rest) a w:=
 wpList_plain hgd fun K hK=>by
  unfold Oper.wp execOp;simp only [ho,List.map_toArray,List.map_cons,List.map_nil,hx,hy,hz,hs,Sem.run_bind,bs95_4,Result.andThen_ok];exact hK _ _ (h _ _ rfl (Blk.new w 92 _) ((Kept.refl _ _).alloc _))
end
theorem _root_.Go.Proofs.YtcfflbafclmheaaGreatDoor.Blk.apart {W:World} {b c T U:Nat} {vs us:List Value} (h:Blk W b T vs) (k:Blk W c U us) (hT:T≠U):b≠c:=by
 intro e;subst e;unfold Blk at h k;rw [h] at k;injection k with k;injection k with _ k;exact hT k
theorem _root_.Go.Proofs.YtcfflbafclmheaaGreatDoor.Vi.First.k92 {w w':World} (h:Vi.First w) (k:K92 w w'):Vi.First w':=by
 refine⟨fun j v hj=> ?_,Nat.lt_of_lt_of_le h.lt k.size⟩;have h0:=h.at0 j v hj;rw [World.cell?_of_block (w:=w) (k.block 0 h.lt (.inl rfl))];exact h0
theorem told80 (bq b1 b2 c1 c2 c3 c4 b g:Nat) (D:Dv.Dev) (v:Vi.Vw) (n ep who:Int) (f0:FuncId) (cs0:Array Value) (W0:World) (hF:Vi.First W0) (hv:v.Ok) (BQ:Blk W0 bq 92 [fnV f0 cs0,fnV 83 #[P0 b1,P0 c1,P0 c3,P0 b2],fnV 85 #[P0 c4,P0 c1,P0 c2,P0 c3,P0 b1]])
   (B1:Blk W0 b1 29 (Vi.vwC v)) (B2:Blk W0 b2 29 (Vi.vwC Vi.zv)) (C1:Blk W0 c1 3 [.int .i64 n]) (C2:Blk W0 c2 2 [.int .i64 ep]) (C3:Blk W0 c3 3 [.int .i64 who]) (C4:Blk W0 c4 32 [P0 b]) (h:Dv.Dv W0 b g D) (h12:b1≠b2) (hb0:b2≠0)
   (hq:ZP W0 (fnV f0 cs0) (qa (v.is n ep) 6)):
   Calls Tryz.prog 67 #[.slice (some ⟨bq,0,none⟩) 3 3] W0 fun e W'=>∃x,e= .returned (.int .i64 x)∧Kept [b2,b,g] W0 W'∧Blk W' b2 29 (Vi.vwC (mout D v n ep who).1.1)∧Dv.Dv W' b g (mout D v n ep who).2∧x=(mout D v n ep who).1.2:=by
 have hne:=first_ne hF h;have n1:=blk_ne B1 h (by decide) (by decide);have n2:=blk_ne B2 h (by decide) (by decide);have m1:=blk_ne C1 h (by decide) (by decide);have m2:=blk_ne C2 h (by decide) (by decide);have m3:=blk_ne C3 h (by decide) (by decide);have m4:=blk_ne C4 h (by decide) (by decide);have mq:=blk_ne BQ h (by decide) (by decide);have t1:=Blk.apart C1 B2 (by decide);have t2:=Blk.apart C2 B2 (by decide);have t3:=Blk.apart C3 B2 (by decide);have t4:=Blk.apart C4 B2 (by decide);have tq:=Blk.apart BQ B2 (by decide);have hbn:b∉ [b2]:=fun e=>n2 (by simp at e;subst e;simp);have hgn:g∉ [b2]:=fun e=>n2 (by simp at e;subst e;simp);have hol:=(outV_ok hv n who).len;obtain⟨f,cs,e0,hent,hcl⟩:=hq;injection e0 with e0 _ e1;injection e0 with e0;subst e0 e1;refine told67 bq 3 3 [(f0,cs0),(83,#[P0 b1,P0 c1,P0 c3,P0 b2]),(85,#[P0 c4,P0 c1,P0 c2,P0 c3,P0 b1])] W0 rfl (by omega)
   (fun k W=>match k with
     | 0=>Kept [] W0 W
     | 1=>Kept [] W0 W∧v.is n ep=true
     | 2=>Kept [b2] W0 W∧Blk W b2 29 (Vi.vwC (Vi.outV v n who).1)∧v.is n ep=true∧(Vi.outV v n who).2=0
     | _=>Kept [b2,b,g] W0 W∧Blk W b2 29 (Vi.vwC (Vi.outV v n who).1)∧Dv.Dv W b g (D.fence n ep who (v.mem who).2).2∧v.is n ep=true∧(Vi.outV v n who).2=0∧(D.fence n ep who (v.mem who).2).1=0)
   (fun x W'=>Kept [b2,b,g] W0 W'∧Blk W' b2 29 (Vi.vwC (mout D v n ep who).1.1)∧Dv.Dv W' b g (mout D v n ep who).2∧x=(mout D v n ep who).1.2) (Kept.refl _ _) ?_ ?_ ?_
 · intro k W hI;have hR:Rg W0 bq [fnV f0 cs0,fnV 83 #[P0 b1,P0 c1,P0 c3,P0 b2],fnV 85 #[P0 c4,P0 c1,P0 c2,P0 c3,P0 b1]]:=Rg.of BQ
   match k,hI with
   | 0,hI=>exact hR.kept hI (by simp)
   | 1,hI=>exact hR.kept hI.1 (by simp)
   | 2,hI=>exact hR.kept hI.1 (by simpa using tq)
   | k+3,hI=>exact hR.kept hI.1 (fun e=>by simp at e mq;rcases e with e | e | e;exact tq e;exact mq.1 e;exact mq.2 e)
 · intro k f cs W hk hI
   match k,hk,hI with
   | 0,hk,hI=>
     simp at hk;obtain⟨rfl,rfl⟩:=hk;refine⟨hent,(hcl W (K92.of hI)).mono ?_⟩;rintro e W' ⟨rfl,hk'⟩;refine⟨_,rfl,?_⟩;cases hi:v.is n ep with
     | true=>exact .inl ⟨rfl,hI.trans hk',rfl⟩
     | false=>
       have e:mout D v n ep who=((Vi.zv,6),D):=by unfold mout;rw [hi];rfl
       have hk2:=hI.trans hk';exact .inr ⟨by simp [qa],hk2.mono (by simp),by rw [e];exact B2.kept hk2 (by simp),by rw [e];exact h.kept hk2 (by simp) (by simp),by rw [e];rfl⟩
   | 1,hk,hI=>
     simp at hk;obtain⟨rfl,rfl⟩:=hk;obtain⟨hW,hi⟩:=hI;refine⟨ent83,(do83 b1 c1 c3 b2 v Vi.zv n who W (hF.kept hW) hv rfl (B1.kept hW (by simp)) (C1.kept hW (by simp)) (C3.kept hW (by simp)) (B2.kept hW (by simp))).mono ?_⟩;rintro e W' ⟨rfl,hb,hk'⟩;have hk2:Kept [b2] W0 W':=(hW.mono (by simp)).trans hk';refine⟨_,rfl,?_⟩;by_cases h0:(Vi.outV v n who).2=0
     · exact .inl ⟨h0,hk2,hb,hi,h0⟩
     · have e:mout D v n ep who=(Vi.outV v n who,D):=by unfold mout;rw [if_pos hi,if_neg h0]
       exact .inr ⟨h0,hk2.mono (by simp),by rw [e];exact hb,by rw [e];exact h.kept hk2 hbn hgn,by rw [e]⟩
   | 2,hk,hI=>
     simp at hk;obtain⟨rfl,rfl⟩:=hk;obtain⟨hW,hb,hi,h0⟩:=hI;obtain⟨k,rfl⟩:=Int.eq_ofNat_of_zero_le (outV_no h0).1;have hk8:=(outV_no h0).2;refine⟨ent85,(do85 c4 c1 c2 c3 b1 b g D v n ep k (by omega) W hv.len (C4.kept hW (by simpa using t4)) (C1.kept hW (by simpa using t1)) (C2.kept hW (by simpa using t2)) (C3.kept hW (by simpa using t3)) (B1.kept hW (by simpa using h12)) (h.kept hW hbn hgn)).mono ?_⟩;rintro e W' ⟨rfl,hd,hk'⟩;have hk2:Kept [b2,b,g] W0 W':=(hW.mono (by simp)).trans (hk'.mono (by simp));have hb':=hb.kept hk' n2;refine⟨_,rfl,?_⟩;by_cases hf0:(D.fence n ep (k:Nat) (v.mem (k:Nat)).2).1=0
     · exact .inl ⟨hf0,hk2,hb',hd,hi,h0,hf0⟩
     · have e:mout D v n ep (k:Nat)=(((Vi.outV v n (k:Nat)).1,(D.fence n ep (k:Nat) (v.mem (k:Nat)).2).1),(D.fence n ep (k:Nat) (v.mem (k:Nat)).2).2):=by unfold mout;rw [if_pos hi,if_pos h0]
       exact .inr ⟨hf0,hk2,by rw [e];exact hb',by rw [e];exact hd,by rw [e]⟩
   | k+3,hk,_=>simp at hk
 · rintro W ⟨hW,hb,hd,hi,h0,hf0⟩;have e:mout D v n ep who=(((Vi.outV v n who).1,(D.fence n ep who (v.mem who).2).1),(D.fence n ep who (v.mem who).2).2):=by unfold mout;rw [if_pos hi,if_pos h0]
   exact⟨hW,by rw [e];exact hb,by rw [e];exact hd,by rw [e];exact hf0.symm⟩
theorem res80 (w:World) (z:Nat) (vs:List Value) (e:Int) (tmps:Array Value) (h4:tmps[6]?.getD undef=P0 z) (h5:tmps[7]?.getD undef= .int .i64 e) (hl:vs.length=19) (hb:Blk w z 29 vs):(results Tryz.f80 tmps).run Tryz.prog w= .ok (.tuple #[Qd vs,.int .i64 e]) w:=by
 have h1:=Zq Vi.Qn hl hb;simp [results,Tryz.results80,h4,h5,h1,asAddr]
theorem do80 (c1 c2 c3 c4 b g:Nat) (D:Dv.Dev) (v:Vi.Vw) (n ep who:Int) (w:World) (hF:Vi.First w) (hv:v.Ok) (C1:Blk w c1 3 [.int .i64 n]) (C2:Blk w c2 2 [.int .i64 ep]) (C3:Blk w c3 3 [.int .i64 who]) (C4:Blk w c4 32 [P0 b]) (h:Dv.Dv w b g D):
  Calls Tryz.prog 80 #[Qd (Vi.vwC v),P0 c1,P0 c2,P0 c3,P0 c4] w fun e w'=>e= .returned (.tuple #[Qd (Vi.vwC (mout D v n ep who).1.1),.int .i64 (mout D v n ep who).1.2])∧Dv.Dv w' b g (mout D v n ep who).2∧Kept [b,g] w w':=by
 have PU:∀W b1,Kept [] w W→Blk W b1 29 (Vi.vwC v)→Hid (Calls Tryz.prog 78 #[.int .i64 6,fnV 81 #[P0 b1,P0 c1,P0 c2]] W fun r w'=>∃q,r= .returned q∧ZP w' q (qa (v.is n ep) 6)∧Kept [] W w'):=fun W b1 hW B1=>hide (unless_q 6 81 _ (v.is n ep) W ent81 (fun V hV=>do81 b1 c1 c2 v n ep V ((hF.kept hW).k92 hV) hv.len (B1.k92 hV (by decide)) ((C1.kept hW (by simp)).k92 hV (by decide)) ((C2.kept hW (by simp)).k92 hV (by decide))));have PT:∀W bq b1 b2 f0 cs0,Mm [] w W [(b1,29,Vi.vwC v),(b2,29,Vi.vwC Vi.zv),(bq,92,[fnV f0 cs0,fnV 83 #[P0 b1,P0 c1,P0 c3,P0 b2],fnV 85 #[P0 c4,P0 c1,P0 c2,P0 c3,P0 b1]])]→ZP W (fnV f0 cs0) (qa (v.is n ep) 6)→Hid (Calls Tryz.prog 67 #[.slice (some ⟨bq,0,none⟩) 3 3] W fun e W'=>∃x,e= .returned (.int .i64 x)∧Kept [b2,b,g] W W'∧Blk W' b2 29 (Vi.vwC (mout D v n ep who).1.1)∧Dv.Dv W' b g (mout D v n ep who).2∧x=(mout D v n ep who).1.2):=fun W bq b1 b2 f0 cs0 hM hQ=>hide (by
  have hk:=hM.kept;refine told80 bq b1 b2 c1 c2 c3 c4 b g D v n ep who f0 cs0 W (hF.kept hk) hv (hM.at 2 _ rfl) (hM.at 0 _ rfl) (hM.at 1 _ rfl) (C1.kept hk (by simp)) (C2.kept hk (by simp)) (C3.kept hk (by simp)) (C4.kept hk (by simp)) (h.kept hk (by simp) (by simp)) ?_ ?_ hQ
  · intro e;have hd:=hM.nd;simp [e] at hd
  · intro e;have:=mm_new hM (b2,29,Vi.vwC Vi.zv) (by simp);have:=hF.lt;simp only at*;omega)
 have hlt:=h.lt;have HLT:=hide hlt;have hok:=mout_ok (D:=D) hv n ep who;have hm:=hmf;obtain⟨⟨⟨u,uc⟩,D2⟩,hu⟩:∃r,mout D v n ep who=r:=⟨_,rfl⟩;rw [hu] at PT hok⊢;have HU:=hide (Vi.Qk hok.len);clear C1 C2 C3 C4 hF hv h hu hlt hok;have M:Hid (Mm [] w w []):=hide Mm.init;go_enter Tryz.func80,Tryz.ntmps80
 go_wp2_with (first |(refine Qp rfl (.tmp 0) rfl (Vi.vwC v) rfl ?_;intro W1 b1 e1 B1 K1;replace M:=hide ((Qa M).new e1 B1 K1);clear e1 B1 K1;refine Stp.go ?_))
 constructor
 go_wp2_with (first |(refine Qv (Vi.vwC Vi.zv) Vi.QE 6 rfl rfl rfl ?_;intro W2 b2 e2 B2 K2;replace M:=hide ((Qa M).new e2 B2 K2);clear e2 B2 K2;refine Stp.go ?_))
 constructor
 go_wp2_with (first |(go_at_call 78;refine(Qa (PU _ b1 (Qa M).kept ((Qa M).at 0 _ rfl))).mono ?_;rintro e W3 ⟨q,rfl,hq,K3⟩;obtain⟨f0,cs0,hq0⟩:∃f0 cs0,q=fnV f0 cs0:=(by obtain⟨f0,cs0,e,-⟩:=hq;exact⟨f0,cs0,e⟩);subst hq0;have HQ:=hide hq;replace M:=hide ((Qa M).step K3);clear K3 hq;refine Stp.go ?_))
 constructor
 go_wp2_with (first |(refine wpBs3F rfl (.tmp 9) (.tmp 10) (.tmp 11) rfl f0 83 85 cs0 #[P0 b1,P0 c1,P0 c3,P0 b2] #[P0 c4,P0 c1,P0 c2,P0 c3,P0 b1] rfl rfl rfl ?_;intro W4 b4 e4 B4 K4;replace HQ:=hide ((Qa HQ).mono K4);replace M:=hide ((Qa M).new e4 B4 K4);clear e4 B4 K4;refine Stp.go ?_))
 constructor
 have HB2:Hid (w.heap.size≤b2):=mm_new (Qa M) (b2,29,Vi.vwC Vi.zv) (by simp);go_wp2_with (first |(go_at_call 67;refine(Qa (PT _ b4 b1 b2 f0 cs0 (Qa M) (Qa HQ))).mono ?_;rintro e V ⟨x,rfl,kd,hb,hd,hx⟩;subst hx;refine Stp.go ?_))
 constructor
 have HD:=hide hd;have HK:Hid (Kept [b,g] w V):=((Qa M).kept.mono (by simp)).fresh kd (fun i hi hl=>by
  have h9:=Qa HB2;simp at hi;rcases hi with rfl | rfl | rfl
  · omega
  · simp
  · simp)
 replace M:Hid (Mm [b2] V V [(b2,29,Vi.vwC u)]):=hide (Le.Mm.one hb);clear kd hb hd HQ PT PU;go_wp2_with (first |(refine Qg Vi.Qn rfl (.tmp 6) rfl b2 0 rfl (Vi.vwC u) (Qa HU) ((Qa M).at 0 _ rfl).range ?_;refine Stp.go ?_))
 constructor
 go_wp2_with (first |(refine Qh Vi.Qn rfl (.tmp 6) (.tmp 14) rfl rfl b2 0 (Vi.vwC u) rfl rfl (Qa HU) (Vi.Ql _) (Qa M) rfl (Qa HU) ?_;intro W11 N11;replace M:Hid (Mm [b2] V W11 [(b2,29,Vi.vwC u)]):=hide N11;clear N11;refine Stp.go ?_))
 constructor
 go_wp2_with fail
 refine bodyPost_ret (res80 _ b2 _ _ _ rfl rfl (Qa HU) ((Qa M).at 0 _ rfl)) rfl ?_;have h9:=Qa HB2;have h8:=Qa HLT;exact⟨rfl,(Qa HD).kept (Qa M).kept (by simp;omega) (by simp;omega),(Qa HK).fresh (Qa M).kept (fun i hi hl=>by simp at hi;omega)⟩
end Go.Proofs.YtcfflbafclmheaaGreatDoor
