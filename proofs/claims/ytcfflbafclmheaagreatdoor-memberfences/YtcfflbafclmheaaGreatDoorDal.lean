/-
  Texts of the walks of member, shortened.
-/
import Derived.Test.YtcfflbafclmheaaGreatDoorDak
import Derived.Test.YtcfflbafclmheaaGreatDoorDai
set_option maxRecDepth 100000
set_option maxHeartbeats 100000000
set_option linter.unusedSimpArgs false
namespace Go.Proofs.YtcfflbafclmheaaGreatDoor.Vi
open Go.RowKit
theorem cg41 (vs:Array Value) (w:World):(callFunc 155 vs).run Tryz.prog w= .ok (.enter 155 vs) w:=by kernel_rfl
def ZG (s:List Int) (i:Nat):Bool×Int:=(decide (s.getD 3 0/2^i%2=1),ofB 0 ((s.drop (12+4*i)).take 4))
def ZH (s:List Int):Vw:=⟨ofB 0 ((s.drop 4).take 8),decide (s.getD 1 0=1),s.getD 2 0,(List.range 8).map (ZG s)⟩
@[reducible] def SG {α:Type} (w:World) (mk:α→List (Nat×Nat×List Value)) (S0 S1:α) (k:Nat) (d:Nat→Bool) (_:Nat→Value) (W:World):Prop:=
 ∃S,Mm w W (mk S)∧(d k=false→S=S0)∧(d k=true→S=S1)
theorem SG.loc {α:Type} {w:World} {mk:α→List (Nat×Nat×List Value)} {S0 S1:α} {k:Nat} :∀d d' vs vs' W,(∀i∈ [k],d i=d' i∧vs i=vs' i)→SG w mk S0 S1 k d vs W→SG w mk S0 S1 k d' vs' W:=by
 intro d d' vs vs' W H h;have e0:=(H k (by simp)).1;unfold SG at h⊢;rw [← e0];exact h
@[reducible] def SV (V:World) (v:Vw) (d:Nat→Bool) (vs:Nat→Value) (W:World):Prop:=
 Kept [] V W∧(d 9=true→∃p,vs 9=P0 p∧V.heap.size≤p∧(d 10=false→Blk W p 29 (vwC zv))∧(d 10=true→Blk W p 29 (vwC v)))
theorem SV.loc {V:World} {v:Vw} :∀d d' vs vs' W,(∀i∈ [9,10],d i=d' i∧vs i=vs' i)→SV V v d vs W→SV V v d' vs' W:=by
 intro d d' vs vs' W H h;have e0:=H 9 (by simp);have e1:=H 10 (by simp);unfold SV at h⊢;rw [← e0.1,← e0.2,← e1.1];exact h
section
variable {o:Oper} {a:Act} {w:World} {K:Act→World→Prop} {Q:Exit→Act→World→Prop}
theorem o_eql5 (x:Operand) (ho:o.op= .binOp .eql 5 x (.const (.int .u8 1)) 5) (m:Int) (r:Bool) (hr:decide (m=1)=r) (hx:a.eval x= .int .u8 m) (h:K (a.put o.dst (.bool r)) w):o.wp Tryz.prog a w K Q:=by
 subst hr;unfold Oper.wp execOp;simp only [ho,hx];simp [go_sem,Act.eval];have e:(m == 1)=decide (m=1):=by rw [Bool.eq_iff_iff];simp
 rw [e];exact h
theorem o_cv53 (x:Operand) (ho:o.op= .convert 5 3 x) (m:Int) (hm:0≤m∧m<256) (hx:a.eval x= .int .u8 m) (h:K (a.put o.dst (.int .i64 m)) w):o.wp Tryz.prog a w K Q:=by
 have hw:IntKind.i64.wrap m=m:=by rw [IntKind.wrap_i64];omega
 unfold Oper.wp execOp;simp only [ho,hx];simp [go_sem,hw];exact h
theorem o_bld26 (x y z:Operand) (ho:o.op= .build 29 #[(0,x),(1,y),(2,z)]) (n f:Int) (b:Bool) (hx:a.eval x= .int .i64 n) (hy:a.eval y= .bool b) (hz:a.eval z= .int .i64 f) (h:K (a.put o.dst (Qd (vwC ⟨n,b,f,no8⟩))) w):o.wp Tryz.prog a w K Q:=by
 unfold Oper.wp execOp;simp only [ho,List.map_toArray,List.map_cons,List.map_nil,hx,hy,hz,Sem.run_bind,build26p,Result.andThen_ok];exact h
theorem o_bld23 (x y:Operand) (ho:o.op= .build 26 #[(0,x),(1,y)]) (b:Bool) (n:Int) (hx:a.eval x= .bool b) (hy:a.eval y= .int .i64 n) (h:K (a.put o.dst (Qd (QD (b,n)))) w):o.wp Tryz.prog a w K Q:=by
 unfold Oper.wp execOp;simp only [ho,List.map_toArray,List.map_cons,List.map_nil,hx,hy,Sem.run_bind,build23p,Result.andThen_ok];exact h
theorem ZE (x:Operand) (ho:o.op= .fieldAddr 29 x 3) (b:Nat) (hx:a.eval x=P0 b) (h:K (a.put o.dst (.pointer (some ⟨b,3,none⟩))) w):o.wp Tryz.prog a w K Q:=by
 unfold Oper.wp execOp;simp only [ho,hx];simp [go_sem];exact h
theorem o_idx24 (x y:Operand) (ho:o.op= .indexAddr 27 x y) (b j:Nat) (hj:j<8) (hx:a.eval x= .pointer (some ⟨b,3,none⟩)) (hy:a.eval y= .int .i64 j) (h:K (a.put o.dst (.pointer (some ⟨b,3+j*2,none⟩))) w):o.wp Tryz.prog a w K Q:=by
 have hj2:(j:Int)<8:=by omega
 unfold Oper.wp execOp;simp only [ho,hx,hy];simp [go_sem,hj2];exact h
theorem o_shr8 (x y:Operand) (ho:o.op= .binOp .shr 5 x y 3) (m:Int) (j:Nat) (hj:j<8) (hx:a.eval x= .int .u8 m) (hy:a.eval y= .int .i64 j) (h:K (a.put o.dst (.int .u8 (m/2^j))) w):o.wp Tryz.prog a w K Q:=by
 unfold Oper.wp execOp;simp only [ho,hx,hy];rcases (show j=0∨j=1∨j=2∨j=3∨j=4∨j=5∨j=6∨j=7 by omega) with rfl | rfl | rfl | rfl | rfl | rfl | rfl | rfl
 all_goals
  simp [go_sem] at h⊢;exact h
theorem and_bit (m:Int) (h0:0≤m) (h1:m<256):bits BinOp.and IntKind.u8 m 1=m%2:=by
 have ha:(BitVec.ofInt 8 m).toNat=m.toNat:=by rw [BitVec.toNat_ofInt];omega
 show IntKind.u8.wrap ((BitVec.ofInt 8 m &&& BitVec.ofInt 8 1).toNat:Int)=_;rw [BitVec.toNat_and,ha,show(BitVec.ofInt 8 1).toNat=1 from by decide,Nat.and_one_is_mod];simp [IntKind.wrap,IntKind.bits,IntKind.signed];omega
theorem o_and8 (x:Operand) (ho:o.op= .binOp .and 5 x (.const (.int .u8 1)) 5) (m:Int) (hm:0≤m∧m<256) (hx:a.eval x= .int .u8 m) (h:K (a.put o.dst (.int .u8 (m%2))) w):o.wp Tryz.prog a w K Q:=by
 rw [← and_bit m hm.1 hm.2] at h;unfold Oper.wp execOp;simp only [ho,hx];simp [go_sem,Act.eval] at h⊢;exact h
theorem o_stMem (x y:Operand) (ho:o.op= .store 26 x y) (hd:o.dst=none) (b n:Nat) (v:Vw) (m:Bool×Int) (hx:a.eval x= .pointer (some ⟨b,3+n*2,none⟩)) (hy:a.eval y=Qd (QD m)) (hB:Blk w b 29 (vwC v)) (hn:n<8) (hv:v.ms.length=8)
  (h:∀W,Blk W b 29 (vwC ⟨v.nu,v.op,v.fd,v.ms.set n m⟩)→Kept [b] w W→K (a.put o.dst undef) W):o.wp Tryz.prog a w K Q:=
 Zh QC x y ho hd b (3+n*2) (QD m) hx hy rfl (Ze _) (hB.there (by simp [Qk hv];omega)) (by have:=h _ (hB.setMem n (by omega) m) ((Kept.refl _ _).setCells _ _ (by simp));rw [hd] at this;exact this)
end
theorem fill_next (s:List Int) (j:Nat) (h:j<8):(((List.range 8).map (ZG s)).take j++no8.drop j).set j (ZG s j)=((List.range 8).map (ZG s)).take (j+1)++no8.drop (j+1):=by
 rcases (show j=0∨j=1∨j=2∨j=3∨j=4∨j=5∨j=6∨j=7 by omega) with rfl | rfl | rfl | rfl | rfl | rfl | rfl | rfl <;> rfl
theorem viewin_s (s:List Int) (w:World) (hF:First w) (hs:Byts 64 s) (hz:decide (s=zs 64)=false):Calls Tryz.prog 147 #[Qd (u8s s)] w fun e w'=>e= .returned (Qd (vwC (ZH s)))∧Kept [] w w':=by
 have hg:∀k,k<64→(u8s s)[k]?=some (.int .u8 (s.getD k 0))∧(0≤s.getD k 0∧s.getD k 0<256):=by
   intro k hk;have hk2:k<s.length:=by rw [hs.len];exact hk
   have e:s.getD k 0=s[k]:=by rw [List.getD_eq_getElem?_getD,List.getElem?_eq_getElem hk2];rfl
   exact⟨by simp only [u8s,List.getElem?_map];rw [List.getElem?_eq_getElem hk2,e];rfl,by rw [e];exact hs.byte _ (List.getElem_mem _)⟩
 have HC1:=hide (hg 1 (by omega)).1;have HC2:=hide (hg 2 (by omega)).1;have HC3:=hide (hg 3 (by omega)).1;have HB2:=hide (hg 2 (by omega)).2;have hb3:=(hg 3 (by omega)).2;have HBB:=hide hb3;clear hg hb3;go_enter Tryz.func147,Tryz.ntmps147
 have M:Hid (Mm w w []):=hide (Mm.init hF);go_wp2_with (first |(refine Qp rfl (.tmp 0) rfl (u8s s) rfl ?_;intro W1 b1 e1 B1 K1;replace M:=hide ((Qa M).new e1 B1 K1);clear e1 B1 K1;refine Stp.go ?_))
 constructor
 go_wp2_with (first |(refine Qv (vwC zv) QE 2 rfl rfl rfl ?_;intro W2 b2 e2 B2 K2;replace M:=hide ((Qa M).new e2 B2 K2);clear e2 B2 K2;refine Stp.go ?_))
 constructor
 go_wp2_with (first |(refine Qg Zc rfl (.tmp 1) rfl b1 0 rfl (u8s s) (by rw [Qy];exact hs.len) ((Qa M).at 0 _ rfl).range ?_;refine Stp.go ?_))
 constructor
 go_wp2_with (first |(refine QG (T:=59) (u8s (zs 64)) build28 rfl rfl ?_;refine Stp.go ?_))
 constructor
 go_wp2_with (first |(refine wpEqlA 59 59 guard28 (.tmp 5) (.tmp 6) rfl rfl (u8s s) (u8s (zs 64)) rfl rfl false ((equal28 _ s (zs 64) hs.len (by simp [zs])).trans (by rw [hz])) ?_;refine Stp.go ?_))
 constructor
 go_wp2_with fail
 refine wp_region_any mixed (QL 11 rfl (by kernel_rfl) [some (.slice (some ⟨b1,4,none⟩) 8 60),some (.int .i64 (ofB 0 ((s.drop 4).take 8))),some (.pointer (some ⟨b1,1,none⟩)),some (.int .u8 (s.getD 1 0)),some (.bool (decide (s.getD 1 0=1))),some (.pointer (some ⟨b1,2,none⟩)),some (.int .u8 (s.getD 2 0)),some (.int .i64 (s.getD 2 0)),some (Qd (vwC ⟨ofB 0 ((s.drop 4).take 8),decide (s.getD 1 0=1),s.getD 2 0,no8⟩)),none,none] rfl (by kernel_rfl) (fun l vs W=>(SV W2 ⟨ofB 0 ((s.drop 4).take 8),decide (s.getD 1 0=1),s.getD 2 0,no8⟩) (fun i=>l.getD i false) vs W) (⟨⟨rfl,rfl,rfl,Nat.le_refl _,fun _ _ _=>rfl⟩,fun h=>by cases h⟩) ?_ ?_)
 · intro ix o' hi ho a' w2 l vs hls hlf hJ hout hin hdep hnot
   match ix,ho with
   | 0,ho=>
     obtain rfl:=Oj9 ho;have e0:=hout 1 (by kernel_rfl);replace e0:a'.eval (.tmp 1)=_:=e0.trans rfl;exact o_sl28 (.tmp 1) rfl b1 e0 ⟨_,rfl,Qe rfl,Qj [9,10] SV.loc (by omega) (by decide) hJ⟩
   | 1,ho=>
     obtain rfl:=Oj9 ho;have e0:a'.eval (.tmp 9)= .slice (some ⟨b1,4,none⟩) 8 60:=by have h9:=hin 0 9 (by kernel_rfl) (by kernel_rfl);exact h9.1.trans (Qc _ h9.2 rfl)
     refine Qq 155 _ _ rfl #[.slice (some ⟨b1,4,none⟩) 8 60] (by simp [e0]) (cg41 _ _) ((number41 b1 8 4 (s.take 4) ((s.drop 4).take 8) ((s.drop 4).drop 8) w2 (by have h9:=((Qa M).step hJ.1).at 0 _ rfl;rw [show s.take 4++(s.drop 4).take 8++(s.drop 4).drop 8=s by rw [List.append_assoc,List.take_append_drop,List.take_append_drop]];exact h9) (by rw [List.length_take,hs.len];rfl) (by rw [List.length_take,List.length_drop,hs.len];rfl) (fun x hx=>hs.byte x (List.mem_of_mem_drop (List.mem_of_mem_take hx))) 60 (by omega)).mono ?_);rintro e w3 ⟨rfl,rfl⟩;exact⟨_,rfl,_,rfl,Qe rfl,Qj [9,10] SV.loc (by omega) (by decide) hJ⟩
   | 2,ho=>
     obtain rfl:=Oj9 ho;have e0:=hout 1 (by kernel_rfl);replace e0:a'.eval (.tmp 1)=_:=e0.trans rfl;exact o_idx28 (.tmp 1) 1 (by omega) rfl b1 e0 ⟨_,rfl,Qe rfl,Qj [9,10] SV.loc (by omega) (by decide) hJ⟩
   | 3,ho=>
     obtain rfl:=Oj9 ho;have e0:a'.eval (.tmp 11)= .pointer (some ⟨b1,1,none⟩):=by have h9:=hin 2 11 (by kernel_rfl) (by kernel_rfl);exact h9.1.trans (Qc _ h9.2 rfl)
     exact o_load5 (.tmp 11) rfl _ _ e0 (Qb (((Qa M).step hJ.1).at 0 _ rfl) 1 _ (Qa HC1)) ⟨_,rfl,Qe rfl,Qj [9,10] SV.loc (by omega) (by decide) hJ⟩
   | 4,ho=>
     obtain rfl:=Oj9 ho;have e0:a'.eval (.tmp 12)= .int .u8 (s.getD 1 0):=by have h9:=hin 3 12 (by kernel_rfl) (by kernel_rfl);exact h9.1.trans (Qc _ h9.2 rfl)
     exact o_eql5 (.tmp 12) rfl _ _ rfl e0 ⟨_,rfl,Qe rfl,Qj [9,10] SV.loc (by omega) (by decide) hJ⟩
   | 5,ho=>
     obtain rfl:=Oj9 ho;have e0:=hout 1 (by kernel_rfl);replace e0:a'.eval (.tmp 1)=_:=e0.trans rfl;exact o_idx28 (.tmp 1) 2 (by omega) rfl b1 e0 ⟨_,rfl,Qe rfl,Qj [9,10] SV.loc (by omega) (by decide) hJ⟩
   | 6,ho=>
     obtain rfl:=Oj9 ho;have e0:a'.eval (.tmp 14)= .pointer (some ⟨b1,2,none⟩):=by have h9:=hin 5 14 (by kernel_rfl) (by kernel_rfl);exact h9.1.trans (Qc _ h9.2 rfl)
     exact o_load5 (.tmp 14) rfl _ _ e0 (Qb (((Qa M).step hJ.1).at 0 _ rfl) 2 _ (Qa HC2)) ⟨_,rfl,Qe rfl,Qj [9,10] SV.loc (by omega) (by decide) hJ⟩
   | 7,ho=>
     obtain rfl:=Oj9 ho;have e0:a'.eval (.tmp 15)= .int .u8 (s.getD 2 0):=by have h9:=hin 6 15 (by kernel_rfl) (by kernel_rfl);exact h9.1.trans (Qc _ h9.2 rfl)
     exact o_cv53 (.tmp 15) rfl _ (Qa HB2) e0 ⟨_,rfl,Qe rfl,Qj [9,10] SV.loc (by omega) (by decide) hJ⟩
   | 8,ho=>
     obtain rfl:=Oj9 ho;have e0:a'.eval (.tmp 10)= .int .i64 (ofB 0 ((s.drop 4).take 8)):=by have h9:=hin 1 10 (by kernel_rfl) (by kernel_rfl);exact h9.1.trans (Qc _ h9.2 rfl)
     have e1:a'.eval (.tmp 13)= .bool (decide (s.getD 1 0=1)):=by have h9:=hin 4 13 (by kernel_rfl) (by kernel_rfl);exact h9.1.trans (Qc _ h9.2 rfl)
     have e2:a'.eval (.tmp 16)= .int .i64 (s.getD 2 0):=by have h9:=hin 7 16 (by kernel_rfl) (by kernel_rfl);exact h9.1.trans (Qc _ h9.2 rfl)
     exact o_bld26 (.tmp 10) (.tmp 13) (.tmp 16) rfl _ _ _ e0 e1 e2 ⟨_,rfl,Qe rfl,Qj [9,10] SV.loc (by omega) (by decide) hJ⟩
   | 9,ho=>
     obtain rfl:=Oj9 ho;exact wp_allocA (vwC zv) QE rfl ⟨_,rfl,QA rfl,QJ (by omega) ⟨hJ.1.alloc _,fun _=>⟨w2.heap.size,rfl,hJ.1.size,fun _=>Blk.new w2 29 _,fun h=>by have h9:l.getD 10 false=true:=h;rw [hnot 10 (by kernel_rfl)] at h9;cases h9⟩⟩⟩
   | 10,ho=>
     obtain rfl:=Oj9 ho;have e0:a'.eval (.tmp 3)=vs 9:=(hin 9 3 (by kernel_rfl) (by kernel_rfl)).1;have e1:a'.eval (.tmp 17)=Qd (vwC ⟨ofB 0 ((s.drop 4).take 8),decide (s.getD 1 0=1),s.getD 2 0,no8⟩):=by have h9:=hin 8 17 (by kernel_rfl) (by kernel_rfl);exact h9.1.trans (Qc _ h9.2 rfl)
     obtain⟨p,hp,hge,hz0,_⟩:=hJ.2 (hdep 9 (by kernel_rfl));exact Zh Qn (.tmp 3) (.tmp 17) rfl rfl p 0 _ (e0.trans hp) e1 rfl (Ql _) ((hz0 hlf).there (by decide)) ⟨undef,rfl,QA rfl,QJ (by omega) ⟨hJ.1.setCells _ _ (by omega),fun _=>⟨p,hp,hge,(fun h=>by cases h),fun _=>(hz0 hlf).put rfl⟩⟩⟩
 intro l_ vs4 V4 hl hJ htold;have t0:vs4 0= .slice (some ⟨b1,4,none⟩) 8 60:=Qc _ (htold 0 (by decide)) rfl;have t1:vs4 1= .int .i64 (ofB 0 ((s.drop 4).take 8)):=Qc _ (htold 1 (by decide)) rfl;have t2:vs4 2= .pointer (some ⟨b1,1,none⟩):=Qc _ (htold 2 (by decide)) rfl;have t3:vs4 3= .int .u8 (s.getD 1 0):=Qc _ (htold 3 (by decide)) rfl;have t4:vs4 4= .bool (decide (s.getD 1 0=1)):=Qc _ (htold 4 (by decide)) rfl;have t5:vs4 5= .pointer (some ⟨b1,2,none⟩):=Qc _ (htold 5 (by decide)) rfl;have t6:vs4 6= .int .u8 (s.getD 2 0):=Qc _ (htold 6 (by decide)) rfl;have t7:vs4 7= .int .i64 (s.getD 2 0):=Qc _ (htold 7 (by decide)) rfl;have t8:vs4 8=Qd (vwC ⟨ofB 0 ((s.drop 4).take 8),decide (s.getD 1 0=1),s.getD 2 0,no8⟩):=Qc _ (htold 8 (by decide)) rfl;rw [show (List.range 11).map vs4= [vs4 0,vs4 1,vs4 2,vs4 3,vs4 4,vs4 5,vs4 6,vs4 7,vs4 8,vs4 9,vs4 10] from rfl];simp only [t0,t1,t2,t3,t4,t5,t6,t7,t8,Qz,Act.put,List.setIfInBounds_toArray,List.set_cons_succ,List.set_cons_zero];clear t0 t1 t2 t3 t4 t5 t6 t7 t8 htold;obtain⟨p,ep,hgp,_,hbp⟩:=hJ.2 (hl 9 (by decide));replace hbp:=hbp (hl 10 (by decide));have hb1:b1<W2.heap.size:=((Qa M).at 0 _ rfl).lt;have hb2:b2<W2.heap.size:=((Qa M).at 1 _ rfl).lt;have hwz:=(Qa M).kept.size;replace M:Hid (Mm w V4 [(b1,59,u8s s),(b2,29,vwC zv),(p,29,vwC ⟨ofB 0 ((s.drop 4).take 8),decide (s.getD 1 0=1),s.getD 2 0,no8⟩)]):=hide (((Qa M).step hJ.1).add hbp (by omega) (fun x hx=>by simp at hx;rcases hx with rfl | rfl <;> simp <;> omega));rw [ep];clear hJ hl ep hgp hbp hb1 hb2 hwz;go_wp2_with fail
 go_loopw [18] (fun i wr=>∃j:Nat,j≤8∧i= .int .i64 j∧Hid (Mm w wr [(b1,59,u8s s),(b2,29,vwC zv),(p,29,vwC ⟨ofB 0 ((s.drop 4).take 8),decide (s.getD 1 0=1),s.getD 2 0,((List.range 8).map (ZG s)).take j++no8.drop j⟩)])) (fun i _=>8-(intOf i).toNat)
 case atStart=>exact ⟨0,by omega,rfl,M⟩
 case round=>
   clear M;obtain⟨j,hj,rfl,M⟩:=hrel;by_cases hlt:j<8
   · have hltI:(j:Int)<8:=by omega
     have hd:decide ((j:Int)<8)=true:=by simpa using hltI
     have HJ8:=hide hlt;have HLJ:Hid ((((List.range 8).map (ZG s)).take j++no8.drop j).length=8):=by show _=_;simp [no8];omega
     have HB3:Hid (0≤s.getD 3 0/2^j∧s.getD 3 0/2^j<256):=by
       obtain⟨h0,h1⟩:=Qa HBB;have hp:(1:Int)≤2^j:=by
        have:(0:Int)<2^j:=Int.pow_pos (by omega);omega
       refine⟨Int.ediv_nonneg h0 (by omega),?_⟩;have:=Int.ediv_le_self (2^j) h0;omega
     go_wp2_with fail
     refine wp_region_any mixed (QL 15 rfl (by kernel_rfl) [some (.int .i64 j),some (.pointer (some ⟨b1,3,none⟩)),some (.int .u8 (s.getD 3 0)),some (.int .i64 j),some (.int .u8 (s.getD 3 0/2^j)),some (.int .u8 (s.getD 3 0/2^j%2)),some (.bool (decide (s.getD 3 0/2^j%2=1))),some (.slice (some ⟨b1,0,none⟩) 64 64),some (.int .i64 j),some (.slice (some ⟨b1,12+4*j,none⟩) 4 (52-4*j)),some (.int .i64 (ofB 0 ((s.drop (12+4*j)).take 4))),some (Qd (QD (ZG s j))),some (.pointer (some ⟨p,3,none⟩)),some (.pointer (some ⟨p,3+j*2,none⟩)),none] rfl (by kernel_rfl) (fun l vs W=>(SG w (fun S:Vw=> [(b1,59,u8s s),(b2,29,vwC zv),(p,29,vwC S)]) ⟨ofB 0 ((s.drop 4).take 8),decide (s.getD 1 0=1),s.getD 2 0,((List.range 8).map (ZG s)).take j++no8.drop j⟩ ⟨ofB 0 ((s.drop 4).take 8),decide (s.getD 1 0=1),s.getD 2 0,(((List.range 8).map (ZG s)).take j++no8.drop j).set j (ZG s j)⟩ 14) (fun i=>l.getD i false) vs W) (⟨_,(Qa M).drew,(fun _=>rfl),fun h=>by cases h⟩) ?_ ?_)
     · intro ix o' hi ho a' w2 l vs hls hlf hJ hout hin hdep hnot
       match ix,ho with
       | 0,ho=>
        obtain rfl:=Oj9 ho;have e0:=hout 4 (by kernel_rfl);replace e0:a'.eval (.tmp 4)=_:=e0.trans rfl;exact wp_move (.tmp 4) rfl _ e0 ⟨_,rfl,Qe rfl,Qj [14] SG.loc (by omega) (by decide) hJ⟩
       | 1,ho=>
        obtain rfl:=Oj9 ho;have e0:=hout 1 (by kernel_rfl);replace e0:a'.eval (.tmp 1)=_:=e0.trans rfl;exact o_idx28 (.tmp 1) 3 (by omega) rfl b1 e0 ⟨_,rfl,Qe rfl,Qj [14] SG.loc (by omega) (by decide) hJ⟩
       | 2,ho=>
        obtain rfl:=Oj9 ho;have e0:a'.eval (.tmp 22)= .pointer (some ⟨b1,3,none⟩):=by have h9:=hin 1 22 (by kernel_rfl) (by kernel_rfl);exact h9.1.trans (Qc _ h9.2 rfl)
        have hJ2:=hJ;obtain⟨S,hM,_,_⟩:=hJ2;exact o_load5 (.tmp 22) rfl _ _ e0 (Qb (hM.at 0 _ rfl) 3 _ (Qa HC3)) ⟨_,rfl,Qe rfl,Qj [14] SG.loc (by omega) (by decide) hJ⟩
       | 3,ho=>
        obtain rfl:=Oj9 ho;have e0:=hout 4 (by kernel_rfl);replace e0:a'.eval (.tmp 4)=_:=e0.trans rfl;exact wp_move (.tmp 4) rfl _ e0 ⟨_,rfl,Qe rfl,Qj [14] SG.loc (by omega) (by decide) hJ⟩
       | 4,ho=>
        obtain rfl:=Oj9 ho;have e0:a'.eval (.tmp 23)= .int .u8 (s.getD 3 0):=by have h9:=hin 2 23 (by kernel_rfl) (by kernel_rfl);exact h9.1.trans (Qc _ h9.2 rfl)
        have e1:a'.eval (.tmp 24)= .int .i64 j:=by have h9:=hin 3 24 (by kernel_rfl) (by kernel_rfl);exact h9.1.trans (Qc _ h9.2 rfl)
        exact o_shr8 (.tmp 23) (.tmp 24) rfl _ j (Qa HJ8) e0 e1 ⟨_,rfl,Qe rfl,Qj [14] SG.loc (by omega) (by decide) hJ⟩
       | 5,ho=>
        obtain rfl:=Oj9 ho;have e0:a'.eval (.tmp 25)= .int .u8 (s.getD 3 0/2^j):=by have h9:=hin 4 25 (by kernel_rfl) (by kernel_rfl);exact h9.1.trans (Qc _ h9.2 rfl)
        exact o_and8 (.tmp 25) rfl _ (Qa HB3) e0 ⟨_,rfl,Qe rfl,Qj [14] SG.loc (by omega) (by decide) hJ⟩
       | 6,ho=>
        obtain rfl:=Oj9 ho;have e0:a'.eval (.tmp 26)= .int .u8 (s.getD 3 0/2^j%2):=by have h9:=hin 5 26 (by kernel_rfl) (by kernel_rfl);exact h9.1.trans (Qc _ h9.2 rfl)
        exact o_eql5 (.tmp 26) rfl _ _ rfl e0 ⟨_,rfl,Qe rfl,Qj [14] SG.loc (by omega) (by decide) hJ⟩
       | 7,ho=>
        obtain rfl:=Oj9 ho;have e0:=hout 1 (by kernel_rfl);replace e0:a'.eval (.tmp 1)=_:=e0.trans rfl;exact o_all28 (.tmp 1) rfl b1 e0 ⟨_,rfl,Qe rfl,Qj [14] SG.loc (by omega) (by decide) hJ⟩
       | 8,ho=>
        obtain rfl:=Oj9 ho;have e0:=hout 4 (by kernel_rfl);replace e0:a'.eval (.tmp 4)=_:=e0.trans rfl;exact wp_move (.tmp 4) rfl _ e0 ⟨_,rfl,Qe rfl,Qj [14] SG.loc (by omega) (by decide) hJ⟩
       | 9,ho=>
        obtain rfl:=Oj9 ho;have e0:a'.eval (.tmp 28)= .slice (some ⟨b1,0,none⟩) 64 64:=by have h9:=hin 7 28 (by kernel_rfl) (by kernel_rfl);exact h9.1.trans (Qc _ h9.2 rfl)
        have e1:a'.eval (.tmp 29)= .int .i64 j:=by have h9:=hin 8 29 (by kernel_rfl) (by kernel_rfl);exact h9.1.trans (Qc _ h9.2 rfl)
        refine Qq 156 _ _ rfl #[.slice (some ⟨b1,0,none⟩) 64 64,.int .i64 j] (by simp [e0,e1]) (cg33 _ _) ((epoch33 b1 j w2 (Qa HJ8)).mono ?_);rintro e w3 ⟨rfl,rfl⟩;exact⟨_,rfl,_,rfl,Qe rfl,Qj [14] SG.loc (by omega) (by decide) hJ⟩
       | 10,ho=>
        obtain rfl:=Oj9 ho;have e0:a'.eval (.tmp 30)= .slice (some ⟨b1,12+4*j,none⟩) 4 (52-4*j):=by have h9:=hin 9 30 (by kernel_rfl) (by kernel_rfl);exact h9.1.trans (Qc _ h9.2 rfl)
        have hJ2:=hJ;obtain⟨S,hM,_,_⟩:=hJ2;refine Qq 155 _ _ rfl #[.slice (some ⟨b1,12+4*j,none⟩) 4 (52-4*j)] (by simp [e0]) (cg41 _ _) ((number41 b1 4 (12+4*j) (s.take (12+4*j)) ((s.drop (12+4*j)).take 4) ((s.drop (12+4*j)).drop 4) w2 (by have h9:=hM.at 0 _ rfl;rw [show s.take (12+4*j)++(s.drop (12+4*j)).take 4++(s.drop (12+4*j)).drop 4=s by rw [List.append_assoc,List.take_append_drop,List.take_append_drop]];exact h9) (by have:=Qa HJ8;rw [List.length_take,hs.len];omega) (by have:=Qa HJ8;rw [List.length_take,List.length_drop,hs.len];omega) (fun x hx=>hs.byte x (List.mem_of_mem_drop (List.mem_of_mem_take hx))) _ (by omega)).mono ?_);rintro e w3 ⟨rfl,rfl⟩;exact⟨_,rfl,_,rfl,Qe rfl,Qj [14] SG.loc (by omega) (by decide) hJ⟩
       | 11,ho=>
        obtain rfl:=Oj9 ho;have e0:a'.eval (.tmp 27)= .bool (decide (s.getD 3 0/2^j%2=1)):=by have h9:=hin 6 27 (by kernel_rfl) (by kernel_rfl);exact h9.1.trans (Qc _ h9.2 rfl)
        have e1:a'.eval (.tmp 31)= .int .i64 (ofB 0 ((s.drop (12+4*j)).take 4)):=by have h9:=hin 10 31 (by kernel_rfl) (by kernel_rfl);exact h9.1.trans (Qc _ h9.2 rfl)
        exact o_bld23 (.tmp 27) (.tmp 31) rfl _ _ e0 e1 ⟨_,rfl,Qe rfl,Qj [14] SG.loc (by omega) (by decide) hJ⟩
       | 12,ho=>
        obtain rfl:=Oj9 ho;have e0:=hout 3 (by kernel_rfl);replace e0:a'.eval (.tmp 3)=_:=e0.trans rfl;exact ZE (.tmp 3) rfl p e0 ⟨_,rfl,Qe rfl,Qj [14] SG.loc (by omega) (by decide) hJ⟩
       | 13,ho=>
        obtain rfl:=Oj9 ho;have e0:a'.eval (.tmp 33)= .pointer (some ⟨p,3,none⟩):=by have h9:=hin 12 33 (by kernel_rfl) (by kernel_rfl);exact h9.1.trans (Qc _ h9.2 rfl)
        have e1:a'.eval (.tmp 21)= .int .i64 j:=by have h9:=hin 0 21 (by kernel_rfl) (by kernel_rfl);exact h9.1.trans (Qc _ h9.2 rfl)
        exact o_idx24 (.tmp 33) (.tmp 21) rfl p j (Qa HJ8) e0 e1 ⟨_,rfl,Qe rfl,Qj [14] SG.loc (by omega) (by decide) hJ⟩
       | 14,ho=>
        obtain rfl:=Oj9 ho;have e0:a'.eval (.tmp 34)= .pointer (some ⟨p,3+j*2,none⟩):=by have h9:=hin 13 34 (by kernel_rfl) (by kernel_rfl);exact h9.1.trans (Qc _ h9.2 rfl)
        have e1:a'.eval (.tmp 32)=Qd (QD (ZG s j)):=by have h9:=hin 11 32 (by kernel_rfl) (by kernel_rfl);exact h9.1.trans (Qc _ h9.2 rfl)
        obtain⟨S,hM,hS0,_⟩:=hJ;obtain rfl:=hS0 hlf;exact o_stMem (.tmp 34) (.tmp 32) rfl rfl p j _ _ e0 e1 (hM.at 2 _ rfl) (Qa HJ8) (Qa HLJ) (fun W hB hK=>⟨undef,rfl,QA rfl,QJ (by omega) ⟨_,hM.mut 2 rfl hK hB,(fun h=>by cases h),fun _=>rfl⟩⟩)
     intro l7 vs7 V7 hl hJ htold;have t0:vs7 0= .int .i64 j:=Qc _ (htold 0 (by decide)) rfl;have t1:vs7 1= .pointer (some ⟨b1,3,none⟩):=Qc _ (htold 1 (by decide)) rfl;have t2:vs7 2= .int .u8 (s.getD 3 0):=Qc _ (htold 2 (by decide)) rfl;have t3:vs7 3= .int .i64 j:=Qc _ (htold 3 (by decide)) rfl;have t4:vs7 4= .int .u8 (s.getD 3 0/2^j):=Qc _ (htold 4 (by decide)) rfl;have t5:vs7 5= .int .u8 (s.getD 3 0/2^j%2):=Qc _ (htold 5 (by decide)) rfl;have t6:vs7 6= .bool (decide (s.getD 3 0/2^j%2=1)):=Qc _ (htold 6 (by decide)) rfl;have t7:vs7 7= .slice (some ⟨b1,0,none⟩) 64 64:=Qc _ (htold 7 (by decide)) rfl;have t8:vs7 8= .int .i64 j:=Qc _ (htold 8 (by decide)) rfl;have t9:vs7 9= .slice (some ⟨b1,12+4*j,none⟩) 4 (52-4*j):=Qc _ (htold 9 (by decide)) rfl;have t10:vs7 10= .int .i64 (ofB 0 ((s.drop (12+4*j)).take 4)):=Qc _ (htold 10 (by decide)) rfl;have t11:vs7 11=Qd (QD (ZG s j)):=Qc _ (htold 11 (by decide)) rfl;have t12:vs7 12= .pointer (some ⟨p,3,none⟩):=Qc _ (htold 12 (by decide)) rfl;have t13:vs7 13= .pointer (some ⟨p,3+j*2,none⟩):=Qc _ (htold 13 (by decide)) rfl;rw [show (List.range 15).map vs7= [vs7 0,vs7 1,vs7 2,vs7 3,vs7 4,vs7 5,vs7 6,vs7 7,vs7 8,vs7 9,vs7 10,vs7 11,vs7 12,vs7 13,vs7 14] from rfl];simp only [t0,t1,t2,t3,t4,t5,t6,t7,t8,t9,t10,t11,t12,t13,Qz,Act.put,List.setIfInBounds_toArray,List.set_cons_succ,List.set_cons_zero];clear t0 t1 t2 t3 t4 t5 t6 t7 t8 t9 t10 t11 t12 t13 htold;obtain⟨S7,hM7,_,hS7⟩:=hJ;obtain rfl:=hS7 (hl 14 (by decide));replace M:Hid (Mm w V7 [(b1,59,u8s s),(b2,29,vwC zv),(p,29,vwC ⟨ofB 0 ((s.drop 4).take 8),decide (s.getD 1 0=1),s.getD 2 0,(((List.range 8).map (ZG s)).take j++no8.drop j).set j (ZG s j)⟩)]):=hide hM7;clear hS7 hM7 hl;go_wp2_with fail
     go_roundw
     case rel=>
       refine⟨j+1,by omega,by go_num,?_⟩;have h9:=Qa M;rw [fill_next s j (Qa HJ8)] at h9;exact h9
     case measure=>simp [intOf];omega
   · have hd:decide ((j:Int)<8)=false:=by simp;omega
     have h8:j=8:=by omega
     replace M:Hid (Mm w wr [(b1,59,u8s s),(b2,29,vwC zv),(p,29,vwC (ZH s))]):=by have:=Qa M;rw [h8] at this;exact this
     clear h8;go_wp2_with (first |(refine Qg Qn rfl (.tmp 3) rfl p 0 rfl (vwC (ZH s)) rfl ((Qa M).at 2 _ rfl).range ?_;refine Stp.go ?_))
     constructor
     go_wp2_with (first |(refine Qh Qn rfl (.tmp 2) (.tmp 36) rfl rfl b2 1 (vwC (ZH s)) rfl rfl rfl (Ql _) (Qa M) rfl rfl ?_;intro W71 N71;replace M:Hid (Mm w W71 [(b1,59,u8s s),(b2,29,vwC (ZH s)),(p,29,vwC (ZH s))]):=hide N71;clear N71;refine Stp.go ?_))
     constructor
     go_wp2_with fail
     refine bodyPost_ret (res34 _ b2 (vwC (ZH s)) _ rfl rfl ((Qa M).at 1 _ rfl)) rfl ?_;exact⟨rfl,(Qa M).kept⟩
theorem viewV_ok {s:List Int} (hs:Byts 64 s):(ZH s).Ok:=by
 have hi:∀(l:List Int) (n:Int),I64 n→I64 (ofB n l):=by
  intro l
  induction l with
  | nil=>intro n h;exact h
  | cons x l ih=>intro n h;rw [ofB];exact ih _ (w64_i _)
 have h0:I64 0:=⟨by decide,by decide⟩;have h2:I64 (s.getD 2 0):=by
  rw [List.getD_eq_getElem?_getD,List.getElem?_eq_getElem (by rw [hs.len];decide)];have:=hs.byte _ (List.getElem_mem (l:=s) (n:=2) (by rw [hs.len];decide));constructor <;> simp <;> omega
 refine⟨hi _ _ h0,h2,by simp [ZH],?_⟩;intro m hm;simp only [ZH,List.mem_map] at hm;obtain⟨i,_,rfl⟩:=hm;exact hi _ _ h0
def getV (s:List Int):Vw×Int:=if s=zs 64 then (fv,0) else if Zr (ZH s)=(s,0) then (ZH s,0) else (zv,12)
theorem putV_len (v:Vw) (h:v.ms.length=8):(Zr v).1.length=64:=by
 unfold Zr;split
 · simp [zs]
 · split
   · simp [zs]
   · simp only [secV];rw [Zj,h]
theorem get9 (s:List Int) (w:World) (hF:First w) (hs:Byts 64 s):Calls Tryz.prog 111 #[Qd (u8s s)] w fun x w'=>x= .returned (two (getV s))∧Kept [] w w':=by
 unfold getV;by_cases hz:s=zs 64
 · rw [if_pos hz];subst hz;exact get_zero w hF
 · rw [if_neg hz];have hok:=viewV_ok hs;have h34:∀W,First W→Calls Tryz.prog 147 #[Qd (u8s s)] W fun e w'=>e= .returned (Qd (vwC (ZH s)))∧Kept [] W w':=fun W hW=>viewin_s s W hW hs (by simpa using hz);have h8:∀W,First W→Calls Tryz.prog 148 #[Qd (vwC (ZH s))] W fun e w'=>e= .returned (.tuple #[Qd (u8s (Zr (ZH s)).1),.int .i64 (Zr (ZH s)).2])∧Kept [] W w':=fun W hW=>put8 (ZH s) W hW hok;have hl:=putV_len (ZH s) hok.len;by_cases hc:(Zr (ZH s)).2=0
   · by_cases he:s=(Zr (ZH s)).1
     · rw [if_pos (Prod.ext he.symm hc)];exact get_a s _ _ _ w hF hs.len hl hok.len h34 h8 hc (by simpa using he)
     · rw [if_neg (fun h=>he (by rw [h]))];exact get_b s _ _ _ w hF hs.len hl hok.len h34 h8 hc (by simpa using he)
   · rw [if_neg (fun h=>hc (by rw [h]))];exact get_c s _ _ _ w hF hs.len hl hok.len h34 h8 hc
end Go.Proofs.YtcfflbafclmheaaGreatDoor.Vi
namespace Go.Proofs.YtcfflbafclmheaaGreatDoor
open Go.RowKit
open Le (Mm Qh Qo)
def Got (e:Ending) (vs:List Value) (x:Int):Prop:=(x=0∧e= .returned (Qd vs))∨(x≠0∧e= .panicked [givP x])
theorem wpCallC {ops:Array Oper} {rest:List Oper} {op:Oper} {a:Act} {w:World} {Q:Exit→Act→World→Prop} (hgd:op.guard=none) (f:FuncId) (t:Nat) (args:Array Operand) (ts:Array TypeId) (ho:op.op= .call { callee:= .value (.tmp t),args:=args,argTypes:=ts }) (cs:Array Value) (hf:a.eval (.tmp t)=fnV f cs) (vs us:Array Value) (hv:args.map a.eval=vs) (hu:vs++cs=us) (hcf:Ent f)
  (h:Calls Tryz.prog f us w fun e w'=>∃v,e= .returned v∧wpList Tryz.prog ops Q rest (a.put op.dst v) w'):wpList Tryz.prog ops Q (op::rest) a w:=
 wpList_plain hgd fun _ hK=>wp_callC f t args ts ho cs hf vs hv (hcf _ _) (by
  subst hu;refine h.mono ?_;rintro e w' ⟨v,rfl,hk⟩;exact⟨v,rfl,hK _ _ hk⟩)
theorem sec_len {s:List Int} (h:Dv.Sec s):(u8s s).length=64:=by rw [Qy];exact h.1
theorem sec_byts {s:List Int} (h:Dv.Sec s):Vi.Byts 64 s:=⟨h.1,h.2⟩
theorem sec_bytsL {s:List Int} (h:Dv.Sec s):Le.Byts 64 s:=⟨h.1,h.2⟩
theorem read_at {D:Dv.Dev} (h:D.Ok) {n:Nat} (hn:n<D.S.length):D.read n=(D.S.getD n Dv.nought,0)∧Dv.Sec (D.S.getD n Dv.nought):=by
 constructor
 · unfold Dv.Dev.read;rw [if_pos (by simp [Dv.hasS];omega)];simp
 · rw [List.getD_eq_getElem?_getD,List.getElem?_eq_getElem hn];exact h.sec _ (List.getElem_mem hn)
theorem _root_.Go.Proofs.YtcfflbafclmheaaGreatDoor.Vi.getV_len (s:List Int):(Vi.getV s).1.ms.length=8:=by
 unfold Vi.getV;split
 · rfl
 · split
   · simp [Vi.ZH]
   · rfl
theorem res110 (w:World) (z:Nat) (vs:List Value) (tmps:Array Value) (h4:tmps[6]?.getD undef=P0 z) (hl:vs.length=19) (hb:Blk w z 29 vs):(results Tryz.f110 tmps).run Tryz.prog w= .ok (Qd vs) w:=by
 have h1:=Zq Vi.Qn hl hb;simp [results,Tryz.results110,h4,h1,asAddr]
theorem read110 (b g:Nat) (D:Dv.Dev) (n:Nat) (w:World) (h:Dv.Dv w b g D) (hF:Vi.First w) (hn:n<D.S.length):
   Calls Tryz.prog 110 #[P0 b,.int .i64 n,fnV 111 #[]] w fun e w'=>Kept [] w w'∧Got e (Vi.vwC (Vi.getV (D.S.getD n Dv.nought)).1) (Vi.getV (D.S.getD n Dv.nought)).2:=by
 obtain⟨hr,hs⟩:=read_at h.ok hn;obtain⟨s,hsd⟩:∃s,D.S.getD n Dv.nought=s:=⟨_,rfl⟩;rw [hsd] at hr hs⊢;have hnI: -9223372036854775808≤(n:Int)∧(n:Int)≤9223372036854775807:=by have:=h.ok.s1;omega
 have P146:∀W,Kept [] w W→Hid (Calls Tryz.prog 146 #[P0 b,.int .i64 n] W fun e w'=>e= .returned (.tuple #[Qd (u8s s),.int .i64 0])∧Kept [] W w'):=fun W hW=>hide (by
   have:=Dv.read26 b g D n W (h.kept hW (by simp) (by simp)) hnI;rw [hr] at this;exact this)
 obtain⟨⟨v,c⟩,hv⟩:∃r,Vi.getV s=r:=⟨_,rfl⟩;have PG:∀W,Kept [] w W→Hid (Calls Tryz.prog 111 #[Qd (u8s s)] W fun x w'=>x= .returned (.tuple #[Qd (Vi.vwC v),.int .i64 c])∧Kept [] W w'):=fun W hW=>hide (by
   have:=Vi.get9 s W (hF.kept hW) (sec_byts hs);rw [hv] at this;exact this)
 rw [hv];have hl:=sec_len hs;have hvl:(Vi.vwC v).length=19:=Vi.Qk (by have:=Vi.getV_len s;rw [hv] at this;exact this);have HL:=hide hl;have HVL:=hide hvl;clear h hr hs hsd hnI hv hn hl hvl;have M:Hid (Mm [] w w []):=hide Mm.init;go_enter Tryz.func110,Tryz.ntmps110
 go_wp2_with (first |(refine Qv (Vi.vwC Vi.zv) Vi.QE 6 rfl rfl rfl ?_;intro W1 b1 e1 B1 K1;replace M:=hide ((Qa M).new e1 B1 K1);clear e1 B1 K1;refine Stp.go ?_))
 constructor
 go_wp2_with (first |(go_at_call 146;refine(Qa (P146 _ (Qa M).kept)).mono ?_;rintro e W2 ⟨rfl,K2⟩;replace M:=hide ((Qa M).step K2);clear K2;refine Stp.go ?_))
 constructor
 go_wp2_with (first |(refine QM Vi.Zc (u8s (Vi.zs 64)) (Vi.zl 64) Vi.ZI 7 rfl rfl rfl (.tmp 14) rfl rfl rfl (u8s s) (Qa HL) (QU _) (by kernel_rfl) (by kernel_rfl) ?_;intro W3 b3 e3 B3 K3;replace M:=hide ((Qa M).new e3 B3 K3);clear e3 B3 K3;refine Stp.go ?_))
 constructor
 go_wp2_with (first |(go_at_call 133;refine(give_no _).mono ?_;rintro e W4 ⟨rfl,q4⟩;replace q4:=q4.symm;subst q4;refine Stp.go ?_))
 constructor
 go_wp2_with (first |(refine Qg Vi.Zc rfl (.tmp 7) rfl b3 0 rfl (u8s s) (Qa HL) ((Qa M).at 1 _ rfl).range ?_;refine Stp.go ?_))
 constructor
 go_wp2_with (first |(go_at_call 111;refine(Qa (PG _ (Qa M).kept)).mono ?_;rintro e W5 ⟨rfl,K5⟩;replace M:=hide ((Qa M).step K5);clear K5;refine Stp.go ?_))
 constructor
 go_wp2_with (first |(refine QM Vi.Qn (Vi.vwC Vi.zv) rfl Vi.QE 9 rfl rfl rfl (.tmp 22) rfl rfl rfl (Vi.vwC v) (Qa HVL) (Vi.Ql _) (by kernel_rfl) (by kernel_rfl) ?_;intro W6 b6 e6 B6 K6;replace M:=hide ((Qa M).new e6 B6 K6);clear e6 B6 K6;refine Stp.go ?_))
 constructor
 by_cases hc:c=0
 · subst hc;go_wp2_with (first |(go_at_call 133;refine(give_no _).mono ?_;rintro e V ⟨rfl,q⟩;replace q:=q.symm;subst q;refine Stp.go ?_))
   constructor
   go_wp2_with (first |(refine Qg Vi.Qn rfl (.tmp 9) rfl b6 0 rfl (Vi.vwC v) (Qa HVL) ((Qa M).at 2 _ rfl).range ?_;refine Stp.go ?_))
   constructor
   go_wp2_with (first |(refine Qh Vi.Qn rfl (.tmp 6) (.tmp 26) rfl rfl b1 0 (Vi.vwC v) rfl rfl (Qa HVL) (Vi.Ql _) (Qa M) rfl rfl ?_;intro W7 N7;replace M:Hid (Mm [] w W7 [(b1,29,Vi.vwC v),(b3,59,u8s s),(b6,29,Vi.vwC v)]):=hide N7;clear N7;refine Stp.go ?_))
   constructor
   go_wp2_with fail
   refine bodyPost_ret (res110 _ b1 _ _ rfl (Qa HVL) ((Qa M).at 0 _ rfl)) rfl ?_;exact⟨(Qa M).kept,.inl ⟨rfl,rfl⟩⟩
 · go_wp2_with (first |(go_at_call 133;refine(give_yes c hc _).mono ?_;refine Stp.go ?_))
   constructor
   rintro e V ⟨rfl,rfl⟩;exact⟨rfl,(Qa M).kept,.inr ⟨hc,rfl⟩⟩
theorem res120 (w:World) (z:Nat) (vs:List Value) (tmps:Array Value) (h4:tmps[6]?.getD undef=P0 z) (hl:vs.length=3) (hb:Blk w z 73 vs):(results Tryz.f120 tmps).run Tryz.prog w= .ok (Qd vs) w:=by
 have h1:=Zq Le.QC hl hb;simp [results,Tryz.results120,h4,h1,asAddr]
theorem read120 (b g:Nat) (D:Dv.Dev) (n:Nat) (w:World) (h:Dv.Dv w b g D) (hn:n<D.S.length):
   Calls Tryz.prog 120 #[P0 b,.int .i64 n,fnV 121 #[]] w fun e w'=>Kept [] w w'∧Got e (Le.Le.C (Le.getL (D.S.getD n Dv.nought)).1) (Le.getL (D.S.getD n Dv.nought)).2:=by
 obtain⟨hr,hs⟩:=read_at h.ok hn;obtain⟨s,hsd⟩:∃s,D.S.getD n Dv.nought=s:=⟨_,rfl⟩;rw [hsd] at hr hs⊢;have hnI: -9223372036854775808≤(n:Int)∧(n:Int)≤9223372036854775807:=by have:=h.ok.s1;omega
 have P146:∀W,Kept [] w W→Hid (Calls Tryz.prog 146 #[P0 b,.int .i64 n] W fun e w'=>e= .returned (.tuple #[Qd (u8s s),.int .i64 0])∧Kept [] W w'):=fun W hW=>hide (by
   have:=Dv.read26 b g D n W (h.kept hW (by simp) (by simp)) hnI;rw [hr] at this;exact this)
 obtain⟨⟨v,c⟩,hv⟩:∃r,Le.getL s=r:=⟨_,rfl⟩;have PG:∀W,Kept [] w W→Hid (Calls Tryz.prog 121 #[Qd (u8s s)] W fun x w'=>x= .returned (.tuple #[Qd (Le.Le.C v),.int .i64 c])∧Kept [] W w'):=fun W hW=>hide (by
   have:=Le.get9 s W (sec_bytsL hs);rw [hv] at this;exact this)
 rw [hv];have hl:=sec_len hs;have hvl:(Le.Le.C v).length=3:=rfl;have HL:=hide hl;have HVL:=hide hvl;clear h hr hs hsd hnI hv hn hl hvl;have M:Hid (Mm [] w w []):=hide Mm.init;go_enter Tryz.func120,Tryz.ntmps120
 go_wp2_with (first |(refine Qv (Le.le0.C) Le.QT 6 rfl rfl rfl ?_;intro W1 b1 e1 B1 K1;replace M:=hide ((Qa M).new e1 B1 K1);clear e1 B1 K1;refine Stp.go ?_))
 constructor
 go_wp2_with (first |(go_at_call 146;refine(Qa (P146 _ (Qa M).kept)).mono ?_;rintro e W2 ⟨rfl,K2⟩;replace M:=hide ((Qa M).step K2);clear K2;refine Stp.go ?_))
 constructor
 go_wp2_with (first |(refine QM Vi.Zc (u8s (Vi.zs 64)) (Vi.zl 64) Vi.ZI 7 rfl rfl rfl (.tmp 14) rfl rfl rfl (u8s s) (Qa HL) (QU _) (by kernel_rfl) (by kernel_rfl) ?_;intro W3 b3 e3 B3 K3;replace M:=hide ((Qa M).new e3 B3 K3);clear e3 B3 K3;refine Stp.go ?_))
 constructor
 go_wp2_with (first |(go_at_call 133;refine(give_no _).mono ?_;rintro e W4 ⟨rfl,q4⟩;replace q4:=q4.symm;subst q4;refine Stp.go ?_))
 constructor
 go_wp2_with (first |(refine Qg Vi.Zc rfl (.tmp 7) rfl b3 0 rfl (u8s s) (Qa HL) ((Qa M).at 1 _ rfl).range ?_;refine Stp.go ?_))
 constructor
 go_wp2_with (first |(go_at_call 121;refine(Qa (PG _ (Qa M).kept)).mono ?_;rintro e W5 ⟨rfl,K5⟩;replace M:=hide ((Qa M).step K5);clear K5;refine Stp.go ?_))
 constructor
 go_wp2_with (first |(refine QM Le.QC (Le.le0.C) rfl Le.QT 9 rfl rfl rfl (.tmp 22) rfl rfl rfl (Le.Le.C v) (Qa HVL) (Le.QV _) (by kernel_rfl) (by kernel_rfl) ?_;intro W6 b6 e6 B6 K6;replace M:=hide ((Qa M).new e6 B6 K6);clear e6 B6 K6;refine Stp.go ?_))
 constructor
 by_cases hc:c=0
 · subst hc;go_wp2_with (first |(go_at_call 133;refine(give_no _).mono ?_;rintro e V ⟨rfl,q⟩;replace q:=q.symm;subst q;refine Stp.go ?_))
   constructor
   go_wp2_with (first |(refine Qg Le.QC rfl (.tmp 9) rfl b6 0 rfl (Le.Le.C v) (Qa HVL) ((Qa M).at 2 _ rfl).range ?_;refine Stp.go ?_))
   constructor
   go_wp2_with (first |(refine Qh Le.QC rfl (.tmp 6) (.tmp 26) rfl rfl b1 0 (Le.Le.C v) rfl rfl (Qa HVL) (Le.QV _) (Qa M) rfl rfl ?_;intro W7 N7;replace M:Hid (Mm [] w W7 [(b1,73,Le.Le.C v),(b3,59,u8s s),(b6,73,Le.Le.C v)]):=hide N7;clear N7;refine Stp.go ?_))
   constructor
   go_wp2_with fail
   refine bodyPost_ret (res120 _ b1 _ _ rfl (Qa HVL) ((Qa M).at 0 _ rfl)) rfl ?_;exact⟨(Qa M).kept,.inl ⟨rfl,rfl⟩⟩
 · go_wp2_with (first |(go_at_call 133;refine(give_yes c hc _).mono ?_;refine Stp.go ?_))
   constructor
   rintro e V ⟨rfl,rfl⟩;exact⟨rfl,(Qa M).kept,.inr ⟨hc,rfl⟩⟩
theorem res47 (w:World) (z:Nat) (vs:List Value) (tmps:Array Value) (h4:tmps[4]?.getD undef=P0 z) (hl:vs.length=19) (hb:Blk w z 29 vs):(results Tryz.f47 tmps).run Tryz.prog w= .ok (Qd vs) w:=by
 have h1:=Zq Vi.Qn hl hb;simp [results,Tryz.results47,h4,h1,asAddr]
theorem on47 (b g:Nat) (D:Dv.Dev) (j:Job) (w:World) (h:Dv.Dv w b g D) (hF:Vi.First w) (hj:j.may=true) (hn:0<D.S.length):
   Calls Tryz.prog 47 #[P0 b,Qd (Qf j)] w fun e w'=>Kept [] w w'∧Got e (Vi.vwC (Vi.getV (D.S.getD (0) Dv.nought)).1) (Vi.getV (D.S.getD (0) Dv.nought)).2:=by
 obtain⟨s,hsd⟩:∃s,Vi.getV (D.S.getD (0) Dv.nought)=s:=⟨_,rfl⟩;have PR:∀W,Kept [] w W→Hid (Calls Tryz.prog 110 #[P0 b,.int .i64 (0:Nat),fnV 111 #[]] W fun e w'=>Kept [] W w'∧Got e (Vi.vwC s.1) s.2):=fun W hW=>hide (by
   have:=read110 b g D (0) W (h.kept hW (by simp) (by simp)) (hF.kept hW) hn;rw [hsd] at this;exact this)
 have hvl:(Vi.vwC s.1).length=19:=by rw [← hsd];exact Vi.Qk (Vi.getV_len _)
 have HVL:=hide hvl;rw [hsd];have PA:∀W,Hid (Calls Tryz.prog 109 #[Qd (Qf j)] W fun e w'=>e= .returned (.tuple #[.int .i64 (0:Nat),.int .i64 0])∧Kept [] W w'):=fun W=>hide (by
   have:=Ar.view9 j W;rw [show j.view=(0,0) by unfold Ar.Job.view;rw [if_pos hj]] at this;exact this)
 clear h hsd hn hj hvl;have M:Hid (Mm [] w w []):=hide Mm.init;go_enter Tryz.func47,Tryz.ntmps47
 go_wp2_with (first |(refine Qp rfl (.tmp 1) rfl (Qf j) rfl ?_;intro W1 b1 e1 B1 K1;replace M:=hide ((Qa M).new e1 B1 K1);clear e1 B1 K1;refine Stp.go ?_))
 constructor
 go_wp2_with (first |(refine Qv (Vi.vwC Vi.zv) Vi.QE 4 rfl rfl rfl ?_;intro W2 b2 e2 B2 K2;replace M:=hide ((Qa M).new e2 B2 K2);clear e2 B2 K2;refine Stp.go ?_))
 constructor
 go_wp2_with (first |(refine Qg Zv rfl (.tmp 3) rfl b1 0 rfl (Qf j) rfl ((Qa M).at 0 _ rfl).range ?_;refine Stp.go ?_))
 constructor
 go_wp2_with (first |(go_at_call 109;refine(Qa (PA _)).mono ?_;rintro e W3 ⟨rfl,K3⟩;replace M:=hide ((Qa M).step K3);clear K3;refine Stp.go ?_))
 constructor
 go_wp2_with (first |(go_at_call 110;refine(Qa (PR _ (Qa M).kept)).mono ?_;refine Stp.go ?_))
 constructor
 rintro e V ⟨K7,⟨h0,rfl⟩ | ⟨h0,rfl⟩⟩
 · replace M:=hide ((Qa M).step K7);clear K7;go_wp2_with (first |(refine Qh Vi.Qn rfl (.tmp 4) (.tmp 14) rfl rfl b2 1 (Vi.vwC s.1) rfl rfl (Qa HVL) (Vi.Ql _) (Qa M) rfl rfl ?_;intro W21 N21;replace M:Hid (Mm [] w W21 [(b1,23,Qf j),(b2,29,Vi.vwC s.1)]):=hide N21;clear N21;refine Stp.go ?_))
   constructor
   go_wp2_with fail
   refine bodyPost_ret (res47 _ b2 _ _ rfl (Qa HVL) ((Qa M).at 1 _ rfl)) rfl ?_;exact⟨(Qa M).kept,.inl ⟨h0,rfl⟩⟩
 · exact⟨rfl,(Qa M).kept.trans K7,.inr ⟨h0,rfl⟩⟩
theorem res66 (w:World) (z:Nat) (vs:List Value) (tmps:Array Value) (h4:tmps[6]?.getD undef=P0 z) (hl:vs.length=3) (hb:Blk w z 73 vs):(results Tryz.f66 tmps).run Tryz.prog w= .ok (Qd vs) w:=by
 have h1:=Zq Le.QC hl hb;simp [results,Tryz.results66,h4,h1,asAddr]
theorem on66 (b g:Nat) (D:Dv.Dev) (j:Job) (k m:Nat) (hk:k<8) (hm:m=1+k) (w:World) (h:Dv.Dv w b g D) (hj:j.may=true) (hn:m<D.S.length):
   Calls Tryz.prog 66 #[P0 b,Qd (Qf j),.int .i64 (k:Nat)] w fun e w'=>Kept [] w w'∧Got e (Le.Le.C (Le.getL (D.S.getD (m) Dv.nought)).1) (Le.getL (D.S.getD (m) Dv.nought)).2:=by
 obtain⟨s,hsd⟩:∃s,Le.getL (D.S.getD (m) Dv.nought)=s:=⟨_,rfl⟩;have PR:∀W,Kept [] w W→Hid (Calls Tryz.prog 120 #[P0 b,.int .i64 (m:Nat),fnV 121 #[]] W fun e w'=>Kept [] W w'∧Got e (Le.Le.C s.1) s.2):=fun W hW=>hide (by
   have:=read120 b g D (m) W (h.kept hW (by simp) (by simp)) hn;rw [hsd] at this;exact this)
 have hvl:(Le.Le.C s.1).length=3:=rfl;have HVL:=hide hvl;rw [hsd];have PA:∀W,Hid (Calls Tryz.prog 72 #[Qd (Qf j),.int .i64 k] W fun e w'=>e= .returned (.tuple #[.int .i64 (m:Nat),.int .i64 0])∧Kept [] W w'):=fun W=>hide (by
   have:=Ar.lease18 j k W;rw [show j.lease k=((m:Int),0) by unfold Ar.Job.lease;rw [if_pos (by rw [hj];simp [Ar.below];omega)];rw [hm];simp] at this;exact this)
 have HK8:=hide hk;clear h hsd hn hj hvl hk hm;have M:Hid (Mm [] w w []):=hide Mm.init;go_enter Tryz.func66,Tryz.ntmps66
 go_wp2_with (first |(refine Qp rfl (.tmp 1) rfl (Qf j) rfl ?_;intro W1 b1 e1 B1 K1;replace M:=hide ((Qa M).new e1 B1 K1);clear e1 B1 K1;refine Stp.go ?_))
 constructor
 go_wp2_with (first |(refine Qv (Le.le0.C) Le.QT 6 rfl rfl rfl ?_;intro W2 b2 e2 B2 K2;replace M:=hide ((Qa M).new e2 B2 K2);clear e2 B2 K2;refine Stp.go ?_))
 constructor
 go_wp2_with (first |(refine Qg Zv rfl (.tmp 4) rfl b1 0 rfl (Qf j) rfl ((Qa M).at 0 _ rfl).range ?_;refine Stp.go ?_))
 constructor
 go_wp2_with (first |(go_at_call 72;refine(Qa (PA _)).mono ?_;rintro e W3 ⟨rfl,K3⟩;replace M:=hide ((Qa M).step K3);clear K3;refine Stp.go ?_))
 constructor
 go_wp2_with (first |(go_at_call 120;refine(Qa (PR _ (Qa M).kept)).mono ?_;refine Stp.go ?_))
 constructor
 rintro e V ⟨K7,⟨h0,rfl⟩ | ⟨h0,rfl⟩⟩
 · replace M:=hide ((Qa M).step K7);clear K7;go_wp2_with (first |(refine Qh Le.QC rfl (.tmp 6) (.tmp 17) rfl rfl b2 1 (Le.Le.C s.1) rfl rfl (Qa HVL) (Le.QV _) (Qa M) rfl rfl ?_;intro W21 N21;replace M:Hid (Mm [] w W21 [(b1,23,Qf j),(b2,73,Le.Le.C s.1)]):=hide N21;clear N21;refine Stp.go ?_))
   constructor
   go_wp2_with fail
   refine bodyPost_ret (res66 _ b2 _ _ rfl (Qa HVL) ((Qa M).at 1 _ rfl)) rfl ?_;exact⟨(Qa M).kept,.inl ⟨h0,rfl⟩⟩
 · exact⟨rfl,(Qa M).kept.trans K7,.inr ⟨h0,rfl⟩⟩
open Go.RowKit
open Le (Mm Qh Qo)
section
variable {o:Oper} {a:Act} {w:World} {K:Act→World→Prop} {Q:Exit→Act→World→Prop}
theorem o_ext (x:Operand) (i:Nat) (ho:o.op= .extract x i) (vs:Array Value) (v:Value) (hx:a.eval x= .tuple vs) (hv:vs[i]?=some v) (h:K (a.put o.dst v) w):o.wp Tryz.prog a w K Q:=by
 unfold Oper.wp execOp;simp only [ho,hx];simp [go_sem,hv];exact h
theorem o_mkf (f:FuncId) (caps:Array Operand) (ho:o.op= .makeFunc (.func f) #[] caps) (cs:Array Value) (hc:caps.map a.eval=cs) (h:K (a.put o.dst (fnV f cs)) w):o.wp Tryz.prog a w K Q:=by
 subst hc;unfold Oper.wp execOp;simp only [ho,Sem.run_bind,Array.map_empty,hmf,Result.andThen_ok];exact h
theorem Zz (x:Operand) (ho:o.op= .load 32 x) (p:Addr) (v:Value) (hx:a.eval x= .pointer (some p)) (hc:w.cell? p=some v) (h:K (a.put o.dst v) w):o.wp Tryz.prog a w K Q:=by
 unfold Oper.wp execOp;simp only [ho,hx];simp [go_sem,hc];exact h
theorem bs95_2 (w:World) (f g:FuncId) (cs ds:Array Value):(Instr.buildSlice 95 2 #[(0,fnV f cs),(1,fnV g ds)]).run Tryz.prog w= .ok (.slice (some ⟨w.heap.size,0,none⟩) 2 2) (w.alloc (.cells [fnV f cs,fnV g ds].toArray 92)):=by kernel_rfl
theorem bs95_3 (w:World) (f g k:FuncId) (cs ds es:Array Value):(Instr.buildSlice 95 3 #[(0,fnV f cs),(1,fnV g ds),(2,fnV k es)]).run Tryz.prog w= .ok (.slice (some ⟨w.heap.size,0,none⟩) 3 3) (w.alloc (.cells [fnV f cs,fnV g ds,fnV k es].toArray 92)):=by kernel_rfl
theorem bs95_4 (w:World) (f g k n:FuncId) (cs ds es gs:Array Value):(Instr.buildSlice 95 4 #[(0,fnV f cs),(1,fnV g ds),(2,fnV k es),(3,fnV n gs)]).run Tryz.prog w= .ok (.slice (some ⟨w.heap.size,0,none⟩) 4 4) (w.alloc (.cells [fnV f cs,fnV g ds,fnV k es,fnV n gs].toArray 92)):=by kernel_rfl
theorem o_bs2 (x y:Operand) (ho:o.op= .buildSlice 95 2 #[(0,x),(1,y)]) (u v:Value) (hx:a.eval x=u) (hy:a.eval y=v) {xu xv:Int} {w1 w2:World} (qu:ZP w1 u xu) (qv:ZP w2 v xv) (h:K (a.put o.dst (.slice (some ⟨w.heap.size,0,none⟩) 2 2)) (w.alloc (.cells [u,v].toArray 92))):o.wp Tryz.prog a w K Q:=by
 obtain⟨f,cs,rfl,-⟩:=qu;obtain⟨g,ds,rfl,-⟩:=qv;unfold Oper.wp execOp;simp only [ho,List.map_toArray,List.map_cons,List.map_nil,hx,hy,Sem.run_bind,bs95_2,Result.andThen_ok];exact h
theorem o_bs3 (x y z:Operand) (ho:o.op= .buildSlice 95 3 #[(0,x),(1,y),(2,z)]) (u v s:Value) (hx:a.eval x=u) (hy:a.eval y=v) (hz:a.eval z=s) {xu xv xs:Int} {w1 w2 w3:World} (qu:ZP w1 u xu) (qv:ZP w2 v xv) (qs:ZP w3 s xs) (h:K (a.put o.dst (.slice (some ⟨w.heap.size,0,none⟩) 3 3)) (w.alloc (.cells [u,v,s].toArray 92))):o.wp Tryz.prog a w K Q:=by
 obtain⟨f,cs,rfl,-⟩:=qu;obtain⟨g,ds,rfl,-⟩:=qv;obtain⟨k,es,rfl,-⟩:=qs;unfold Oper.wp execOp;simp only [ho,List.map_toArray,List.map_cons,List.map_nil,hx,hy,hz,Sem.run_bind,bs95_3,Result.andThen_ok];exact h
theorem o_bs4 (x y z q:Operand) (ho:o.op= .buildSlice 95 4 #[(0,x),(1,y),(2,z),(3,q)]) (u v s r:Value) (hx:a.eval x=u) (hy:a.eval y=v) (hz:a.eval z=s) (hq:a.eval q=r) {xu xv xs xr:Int} {w1 w2 w3 w4:World} (qu:ZP w1 u xu) (qv:ZP w2 v xv) (qs:ZP w3 s xs) (qr:ZP w4 r xr) (h:K (a.put o.dst (.slice (some ⟨w.heap.size,0,none⟩) 4 4)) (w.alloc (.cells [u,v,s,r].toArray 92))):o.wp Tryz.prog a w K Q:=by
 obtain⟨f,cs,rfl,-⟩:=qu;obtain⟨g,ds,rfl,-⟩:=qv;obtain⟨k,es,rfl,-⟩:=qs;obtain⟨n,gs,rfl,-⟩:=qr;unfold Oper.wp execOp;simp only [ho,List.map_toArray,List.map_cons,List.map_nil,hx,hy,hz,hq,Sem.run_bind,bs95_4,Result.andThen_ok];exact h
end
@[reducible] def SQ (w:World) (mk:List Value→List (Nat×Nat×List Value)) (z0 z1:List Value) (k sl:Nat) (qs:List (Nat×Int)) (d:Nat→Bool) (vs:Nat→Value) (W:World):Prop:=
 (d k=false→Mm [] w W (mk z0)∧(∀q∈qs,d q.1=true→ZP W (vs q.1) q.2)∧(d sl=true→(∀q∈qs,d q.1=true)∧∃p,vs sl= .slice (some ⟨p,0,none⟩) qs.length qs.length∧Rg W p (qs.map fun q=>vs q.1)))∧(d k=true→Mm [] w W (mk z1))
section
variable {w:World} {mk:List Value→List (Nat×Nat×List Value)} {z0 z1:List Value} {k sl:Nat} {qs:List (Nat×Int)} {d:Nat→Bool} {vs:Nat→Value} {W W':World}
theorem SQ.loc:∀d d' vs vs' W,(∀i∈k::sl::qs.map Prod.fst,d i=d' i∧vs i=vs' i)→SQ w mk z0 z1 k sl qs d vs W→SQ w mk z0 z1 k sl qs d' vs' W:=by
 intro d d' vs vs' W H h;have ek:=H k (by simp);have es:=H sl (by simp);have eq:∀q∈qs,d q.1=d' q.1∧vs q.1=vs' q.1:=fun q hq=>H q.1 (by simp;exact .inr (.inr ⟨q.2,hq⟩));have em:(qs.map fun q=>vs q.1)=qs.map fun q=>vs' q.1:=List.map_congr_left fun q hq=>(eq q hq).2;unfold SQ at h⊢;rw [← ek.1,← es.1,← es.2,← em];refine⟨fun h0=> ?_,h.2⟩;obtain⟨h1,h2,h3⟩:=h.1 h0;refine⟨h1,fun q hq hd=> ?_,fun hs=> ?_⟩
 · rw [← (eq q hq).2];exact h2 q hq (by rw [(eq q hq).1];exact hd)
 · obtain⟨h4,h5⟩:=h3 hs;exact⟨fun q hq=>by rw [← (eq q hq).1];exact h4 q hq,h5⟩
theorem SQ.step (h:SQ w mk z0 z1 k sl qs d vs W) (hd:d k=false) (hk:Kept [] W W'):SQ w mk z0 z1 k sl qs d vs W':=by
 refine⟨fun h0=> ?_,fun h1=>by rw [hd] at h1;cases h1⟩;obtain⟨h1,h2,h3⟩:=h.1 h0;refine⟨h1.step hk,fun q hq hdq=>(h2 q hq hdq).mono hk,fun hs=> ?_⟩;obtain⟨h4,p,h5,h6⟩:=h3 hs;exact⟨h4,p,h5,h6.kept hk (by simp)⟩
theorem SQ.ask (h:SQ w mk z0 z1 k sl qs d vs W) (hd:d k=false) (hs:d sl=false) (hk:Kept [] W W') {i:Nat} {v:Value} {x:Int} (hq:ZP W' v x) (hik:k≠i) (his:sl≠i) (hx:∀q∈qs,q.1=i→q.2=x):
   SQ w mk z0 z1 k sl qs (fun j=>if j=i then true else d j) (fun j=>if j=i then v else vs j) W':=by
 obtain⟨h1,h2,h3⟩:=(h.step hd hk).1 hd;refine⟨fun _=>⟨h1,fun q hq' hdq=> ?_,fun h9=> ?_⟩,fun h9=> ?_⟩
 · dsimp only at*;by_cases e:q.1=i
   · rw [if_pos e,hx q hq' e];exact hq
   · rw [if_neg e] at hdq⊢;exact h2 q hq' hdq
 · dsimp only at*;rw [if_neg his,hs] at h9;cases h9
 · dsimp only at*;rw [if_neg hik,hd] at h9;cases h9
theorem SQ.row (h:SQ w mk z0 z1 k sl qs d vs W) (hd:d k=false) (ha:∀q∈qs,d q.1=true) (hks:k≠sl) (hq:∀q∈qs,q.1≠sl):
   SQ w mk z0 z1 k sl qs (fun j=>if j=sl then true else d j) (fun j=>if j=sl then .slice (some ⟨W.heap.size,0,none⟩) qs.length qs.length else vs j) (W.alloc (.cells (qs.map fun q=>vs q.1).toArray 92)):=by
 obtain⟨h1,h2,-⟩:=(h.step hd ((Kept.refl _ _).alloc (.cells (qs.map fun q=>vs q.1).toArray 92))).1 hd;have em:(qs.map fun q=>(if q.1=sl then Value.slice (some ⟨W.heap.size,0,none⟩) qs.length qs.length else vs q.1))=qs.map fun q=>vs q.1:=List.map_congr_left fun q hq'=>by rw [if_neg (hq q hq')]
 refine⟨fun _=>⟨h1,fun q hq' hdq=> ?_,fun _=>⟨fun q hq'=> ?_,W.heap.size,by dsimp only;rw [if_pos rfl],?_⟩⟩,fun h9=> ?_⟩
 · dsimp only at*;rw [if_neg (hq q hq')] at hdq⊢;exact h2 q hq' hdq
 · dsimp only at*;rw [if_neg (hq q hq')];exact ha q hq'
 · dsimp only at*;rw [em];exact Rg.of (Blk.new W 92 _)
 · dsimp only at*;rw [if_neg hks,hd] at h9;cases h9
theorem SQ.lay (hW:Mm [] w W' (mk z1)):SQ w mk z0 z1 k sl qs (fun j=>if j=k then true else d j) (fun j=>if j=k then undef else vs j) W':=
 ⟨(fun h=>by dsimp only at h;rw [if_pos rfl] at h;cases h),fun _=>hW⟩
end
theorem SQ.list {w:World} {mk:List Value→List (Nat×Nat×List Value)} {z0 z1:List Value} {k sl:Nat} {qs:List (Nat×Int)} {d:Nat→Bool} {vs:Nat→Value} {W:World} (h:SQ w mk z0 z1 k sl qs d vs W) (hd:d k=false) (hs:d sl=true):
  ∃p,vs sl= .slice (some ⟨p,0,none⟩) qs.length qs.length∧∃L:List (Value×Int),L.length=qs.length∧Rg W p (L.map Prod.fst)∧(∀q∈L,ZP W q.1 q.2)∧L.map Prod.snd=qs.map Prod.snd:=by
 obtain⟨h1,h2,h3⟩:=h.1 hd;obtain⟨h4,p,h5,h6⟩:=h3 hs;refine⟨p,h5,qs.map fun q=>(vs q.1,q.2),by simp,(by rw [List.map_map];exact h6),fun q hq=> ?_,by simp⟩;obtain⟨q',hq',rfl⟩:=List.mem_map.1 hq;exact h2 q' hq' (h4 q' hq')
theorem cg44 (vs:Array Value) (w:World):(callFunc 44 vs).run Tryz.prog w= .ok (.enter 44 vs) w:=by kernel_rfl
theorem cg45 (vs:Array Value) (w:World):(callFunc 45 vs).run Tryz.prog w= .ok (.enter 45 vs) w:=by kernel_rfl
theorem cg64 (vs:Array Value) (w:World):(callFunc 64 vs).run Tryz.prog w= .ok (.enter 64 vs) w:=by kernel_rfl
theorem cg68 (vs:Array Value) (w:World):(callFunc 68 vs).run Tryz.prog w= .ok (.enter 68 vs) w:=by kernel_rfl
theorem cg43 (vs:Array Value) (w:World):(callFunc 43 vs).run Tryz.prog w= .ok (.enter 43 vs) w:=by kernel_rfl
theorem cg63 (vs:Array Value) (w:World):(callFunc 63 vs).run Tryz.prog w= .ok (.enter 63 vs) w:=by kernel_rfl
theorem ent46:Ent 46:=fun _ _=>by kernel_rfl
theorem ent65:Ent 65:=fun _ _=>by kernel_rfl
theorem ans43 (b n c:Nat) (f:FuncId) (cs:Array Value) (w:World) (L:List (Value×Int)) (hn:L.length=n) (hn9:n≤100) (hB:Rg w b (L.map Prod.fst)) (hL:∀p∈L,ZP w p.1 p.2) (x:Int) (hx:first0 (L.map Prod.snd)=x) (r:Vi.Vw×Int) (hr:r.2≠0→r.1=Vi.zv) (hl:(Vi.vwC r.1).length=19) (h1:∀v∈Vi.vwC r.1,v.oneCell'=true) (hent:Ent f)
   (hdo:x=0→∀W,Kept [] w W→Calls Tryz.prog f cs W fun e W'=>Kept [] W W'∧Got e (Vi.vwC r.1) r.2):
   Calls Tryz.prog 43 #[.slice (some ⟨b,0,none⟩) n c,fnV f cs] w fun e w'=>e= .returned (.tuple #[Qd (Vi.vwC (if x=0 then r else (Vi.zv,x)).1),.int .i64 (if x=0 then r else (Vi.zv,x)).2])∧Kept [] w w':=by
 by_cases h0:x=0
 · rw [if_pos h0];refine(answer43_yes b n c f cs w L hn hn9 hB hL (hx.trans h0) [] (by simp) (fun z y V=>Kept [] w V∧z=Vi.vwC r.1∧y=r.2) ?_ hent ?_).mono ?_
   · rintro z y V V' X hX ⟨hk,h2⟩ hk';exact⟨hk.upNew hk' hX,h2⟩
   · intro W hW;refine(hdo h0 W hW).mono ?_;rintro e W' ⟨hk,⟨h2,rfl⟩ | ⟨h2,rfl⟩⟩
     · exact .inl ⟨_,rfl,hl,h1,hk,hW.trans hk,rfl,h2.symm⟩
     · exact .inr ⟨r.2,rfl,hk,hW.trans hk,by rw [hr h2],rfl⟩
   · rintro e w' ⟨z,y,rfl,-,hk,rfl,rfl⟩;exact⟨rfl,hk⟩
 · rw [if_neg h0];exact answer43_no b n c f cs w L hn hn9 hB hL x hx h0
theorem ans63 (b n c:Nat) (f:FuncId) (cs:Array Value) (w:World) (L:List (Value×Int)) (hn:L.length=n) (hn9:n≤100) (hB:Rg w b (L.map Prod.fst)) (hL:∀p∈L,ZP w p.1 p.2) (x:Int) (hx:first0 (L.map Prod.snd)=x) (r:Le.Le×Int) (hr:r.2≠0→r.1=Le.le0) (hl:(Le.Le.C r.1).length=3) (h1:∀v∈Le.Le.C r.1,v.oneCell'=true) (hent:Ent f)
   (hdo:x=0→∀W,Kept [] w W→Calls Tryz.prog f cs W fun e W'=>Kept [] W W'∧Got e (Le.Le.C r.1) r.2):
   Calls Tryz.prog 63 #[.slice (some ⟨b,0,none⟩) n c,fnV f cs] w fun e w'=>e= .returned (.tuple #[Qd (Le.Le.C (if x=0 then r else (Le.le0,x)).1),.int .i64 (if x=0 then r else (Le.le0,x)).2])∧Kept [] w w':=by
 by_cases h0:x=0
 · rw [if_pos h0];refine(answer63_yes b n c f cs w L hn hn9 hB hL (hx.trans h0) [] (by simp) (fun z y V=>Kept [] w V∧z=Le.Le.C r.1∧y=r.2) ?_ hent ?_).mono ?_
   · rintro z y V V' X hX ⟨hk,h2⟩ hk';exact⟨hk.upNew hk' hX,h2⟩
   · intro W hW;refine(hdo h0 W hW).mono ?_;rintro e W' ⟨hk,⟨h2,rfl⟩ | ⟨h2,rfl⟩⟩
     · exact .inl ⟨_,rfl,hl,h1,hk,hW.trans hk,rfl,h2.symm⟩
     · exact .inr ⟨r.2,rfl,hk,hW.trans hk,by rw [hr h2],rfl⟩
   · rintro e w' ⟨z,y,rfl,-,hk,rfl,rfl⟩;exact⟨rfl,hk⟩
 · rw [if_neg h0];exact answer63_no b n c f cs w L hn hn9 hB hL x hx h0
open Go.RowKit
open Le (Mm Qh Qo)
def oSec (o:Option Dv.Dev) (n:Nat):List Int:=
 match o with
 | none=>Dv.nought
 | some D=>D.S.getD n Dv.nought
def mview (o:Option Dv.Dev) (j:Job):Vi.Vw×Int:=if first0 [qa (decide (0<Qs o)) 1,qa (Qu o j) 2]=0 then Vi.getV (oSec o 0) else (Vi.zv,first0 [qa (decide (0<Qs o)) 1,qa (Qu o j) 2])
def mlease (o:Option Dv.Dev) (j:Job) (n:Int):Le.Le×Int:=if first0 [qa (decide (0<Qs o)) 1,qa (Qu o j) 2,qa (Qt j n) 2]=0 then Le.getL (oSec o (1+n.toNat)) else (Le.le0,first0 [qa (decide (0<Qs o)) 1,qa (Qu o j) 2,qa (Qt j n) 2])
theorem qa_zero {t:Bool} {e:Int} (he:e≠0) (h:qa t e=0):t=true:=by
 cases t with
 | true=>rfl
 | false=>simp [qa] at h;exact absurd h he
theorem QS {x:Int} {r:List Int} (h:first0 (x::r)=0):x=0∧first0 r=0:=by
 unfold first0 at h;split at h
 · exact⟨by assumption,h⟩
 · exact absurd h (by assumption)
theorem fits_dev {w:World} {p:Value} {o:Option Dv.Dev} {j:Job} (h:Dq w p o) (h1:qa (decide (0<Qs o)) 1=0) (h2:qa (Qu o j) 2=0):∃b g D,o=some D∧p=P0 b∧Dv.Dv w b g D∧j.may=true∧j.p*2+(j.L+9)≤D.S.length∧j.n≤D.N:=by
 have h1:=qa_zero (by decide) h1;have h2:=qa_zero (by decide) h2;cases o with
 | none=>simp [Qs] at h1
 | some D=>
  obtain⟨b,g,e,hd⟩:=h;simp only [Qu,Bool.and_eq_true,decide_eq_true_eq] at h2;obtain⟨h3,h4,h5⟩:=h2;have hm:j.may=true:=by
   unfold Ar.Job.sectors at h3;cases hj:j.may with
   | true=>rfl
   | false=>rw [hj] at h3;simp at h3
  refine⟨b,g,D,rfl,e,hd,hm,?_,h5⟩;unfold Ar.Job.sectors at h4;rw [if_pos hm] at h4;exact h4
theorem getV_zero (s:List Int) (h:(Vi.getV s).2≠0):(Vi.getV s).1=Vi.zv:=by
 unfold Vi.getV at h⊢;split
 · rename_i e;rw [if_pos e] at h;simp at h
 · rename_i e;rw [if_neg e] at h;split
   · rename_i e2;rw [if_pos e2] at h;simp at h
   · rfl
theorem getL_zero (s:List Int) (h:(Le.getL s).2≠0):(Le.getL s).1=Le.le0:=by
 unfold Le.getL at h⊢;split
 · rename_i e;rw [if_pos e] at h;simp at h
 · rfl
theorem res13 (w:World) (z:Nat) (vs:List Value) (e:Int) (tmps:Array Value) (h4:tmps[4]?.getD undef=P0 z) (h5:tmps[5]?.getD undef= .int .i64 e) (hl:vs.length=19) (hb:Blk w z 29 vs):(results Tryz.f13 tmps).run Tryz.prog w= .ok (.tuple #[Qd vs,.int .i64 e]) w:=by
 have h1:=Zq Vi.Qn hl hb;simp [results,Tryz.results13,h4,h5,h1,asAddr]
theorem res30 (w:World) (z:Nat) (vs:List Value) (e:Int) (tmps:Array Value) (h4:tmps[6]?.getD undef=P0 z) (h5:tmps[7]?.getD undef= .int .i64 e) (hl:vs.length=3) (hb:Blk w z 73 vs):(results Tryz.f30 tmps).run Tryz.prog w= .ok (.tuple #[Qd vs,.int .i64 e]) w:=by
 have h1:=Zq Le.QC hl hb;simp [results,Tryz.results30,h4,h5,h1,asAddr]
theorem res46 (w:World) (z:Nat) (vs:List Value) (tmps:Array Value) (h4:tmps[2]?.getD undef=P0 z) (hl:vs.length=19) (hb:Blk w z 29 vs):(results Tryz.f46 tmps).run Tryz.prog w= .ok (Qd vs) w:=by
 have h1:=Zq Vi.Qn hl hb;simp [results,Tryz.results46,h4,h1,asAddr]
theorem res65 (w:World) (z:Nat) (vs:List Value) (tmps:Array Value) (h4:tmps[3]?.getD undef=P0 z) (hl:vs.length=3) (hb:Blk w z 73 vs):(results Tryz.f65 tmps).run Tryz.prog w= .ok (Qd vs) w:=by
 have h1:=Zq Le.QC hl hb;simp [results,Tryz.results65,h4,h1,asAddr]
theorem do46 (b1 b2:Nat) (ao:Option Addr) (j:Job) (r:Vi.Vw×Int) (W:World) (B1:Blk W b1 32 [.pointer ao]) (B2:Blk W b2 23 (Qf j)) (hl:(Vi.vwC r.1).length=19) (h1:∀v∈Vi.vwC r.1,v.oneCell'=true)
   (h47:∀V,Kept [] W V→Calls Tryz.prog 47 #[.pointer ao,Qd (Qf j)] V fun e w'=>Kept [] V w'∧Got e (Vi.vwC r.1) r.2):
   Calls Tryz.prog 46 #[P0 b1,P0 b2] W fun e W'=>Kept [] W W'∧Got e (Vi.vwC r.1) r.2:=by
 have H47:∀V,Kept [] W V→Hid (Calls Tryz.prog 47 #[.pointer ao,Qd (Qf j)] V fun e w'=>Kept [] V w'∧Got e (Vi.vwC r.1) r.2):=fun V hV=>hide (h47 V hV);have HL:=hide hl;have HO:=hide h1;have HB1:=hide B1;have HB2:=hide B2;clear h47 hl h1 B1 B2;have M:Hid (Mm [] W W []):=hide Mm.init;go_enter Tryz.func46,Tryz.ntmps46
 go_wp2_with (first |(refine Qv (Vi.vwC Vi.zv) Vi.QE 2 rfl rfl rfl ?_;intro W1 bz e1 B1 K1;replace M:=hide ((Qa M).new e1 B1 K1);clear e1 B1 K1;have hc1:=Qb ((Qa HB1).kept (Qa M).kept (by simp)) 0 _ rfl;refine Stp.go ?_))
 constructor
 go_wp2_with (first |(refine Qg Zv rfl (.tmp 1) rfl b2 0 rfl (Qf j) rfl ((Qa HB2).kept (Qa M).kept (by simp)).range ?_;refine Stp.go ?_))
 constructor
 go_wp2_with (first |(go_at_call 47;refine(Qa (H47 _ (Qa M).kept)).mono ?_;refine Stp.go ?_))
 constructor
 rintro e V ⟨K7,⟨h0,rfl⟩ | ⟨h0,rfl⟩⟩
 · replace M:=hide ((Qa M).step K7);clear K7;go_wp2_with (first |(refine Qh Vi.Qn rfl (.tmp 2) (.tmp 5) rfl rfl bz 0 (Vi.vwC r.1) rfl rfl (Qa HL) (Qa HO) (Qa M) rfl rfl ?_;intro W21 N21;replace M:Hid (Mm [] W W21 [(bz,29,Vi.vwC r.1)]):=hide N21;clear N21;refine Stp.go ?_))
   constructor
   go_wp2_with fail
   refine bodyPost_ret (res46 _ bz _ _ rfl (Qa HL) ((Qa M).at 0 _ rfl)) rfl ?_;exact⟨(Qa M).kept,.inl ⟨h0,rfl⟩⟩
 · exact⟨rfl,(Qa M).kept.trans K7,.inr ⟨h0,rfl⟩⟩
theorem do65 (b1 b2 b3:Nat) (ao:Option Addr) (j:Job) (k:Nat) (r:Le.Le×Int) (W:World) (B1:Blk W b1 32 [.pointer ao]) (B2:Blk W b2 23 (Qf j)) (B3:Blk W b3 3 [.int .i64 k]) (hl:(Le.Le.C r.1).length=3) (h1:∀v∈Le.Le.C r.1,v.oneCell'=true)
   (h47:∀V,Kept [] W V→Calls Tryz.prog 66 #[.pointer ao,Qd (Qf j),.int .i64 k] V fun e w'=>Kept [] V w'∧Got e (Le.Le.C r.1) r.2):
   Calls Tryz.prog 65 #[P0 b1,P0 b2,P0 b3] W fun e W'=>Kept [] W W'∧Got e (Le.Le.C r.1) r.2:=by
 have H47:∀V,Kept [] W V→Hid (Calls Tryz.prog 66 #[.pointer ao,Qd (Qf j),.int .i64 k] V fun e w'=>Kept [] V w'∧Got e (Le.Le.C r.1) r.2):=fun V hV=>hide (h47 V hV);have HL:=hide hl;have HO:=hide h1;have HB1:=hide B1;have HB2:=hide B2;have HB3:=hide B3;clear h47 hl h1 B1 B2 B3;have M:Hid (Mm [] W W []):=hide Mm.init;go_enter Tryz.func65,Tryz.ntmps65
 go_wp2_with (first |(refine Qv (Le.le0.C) Le.QT 3 rfl rfl rfl ?_;intro W1 bz e1 B1 K1;replace M:=hide ((Qa M).new e1 B1 K1);clear e1 B1 K1;have hc1:=Qb ((Qa HB1).kept (Qa M).kept (by simp)) 0 _ rfl;have hc3:=Qb ((Qa HB3).kept (Qa M).kept (by simp)) 0 _ rfl;refine Stp.go ?_))
 constructor
 go_wp2_with (first |(refine Qg Zv rfl (.tmp 1) rfl b2 0 rfl (Qf j) rfl ((Qa HB2).kept (Qa M).kept (by simp)).range ?_;refine Stp.go ?_))
 constructor
 go_wp2_with (first |(go_at_call 66;refine(Qa (H47 _ (Qa M).kept)).mono ?_;refine Stp.go ?_))
 constructor
 rintro e V ⟨K7,⟨h0,rfl⟩ | ⟨h0,rfl⟩⟩
 · replace M:=hide ((Qa M).step K7);clear K7;go_wp2_with (first |(refine Qh Le.QC rfl (.tmp 3) (.tmp 7) rfl rfl bz 0 (Le.Le.C r.1) rfl rfl (Qa HL) (Qa HO) (Qa M) rfl rfl ?_;intro W21 N21;replace M:Hid (Mm [] W W21 [(bz,73,Le.Le.C r.1)]):=hide N21;clear N21;refine Stp.go ?_))
   constructor
   go_wp2_with fail
   refine bodyPost_ret (res65 _ bz _ _ rfl (Qa HL) ((Qa M).at 0 _ rfl)) rfl ?_;exact⟨(Qa M).kept,.inl ⟨h0,rfl⟩⟩
 · exact⟨rfl,(Qa M).kept.trans K7,.inr ⟨h0,rfl⟩⟩
end Go.Proofs.YtcfflbafclmheaaGreatDoor
