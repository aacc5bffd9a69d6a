import Derived.Test.YtabicgbnloabnaaUGc
namespace Go.Proofs.Ytabicgbnloabnaa
set_option maxRecDepth 100000
set_option linter.unusedSimpArgs false
open Go.RowKit
theorem cd20 (vs:Array Value) (w:World):(callFunc 20 vs).run Try.prog w= .ok (.enter 20 vs) w:=by kernel_rfl
theorem cd32 (vs:Array Value) (w:World):(callFunc 32 vs).run Try.prog w= .ok (.enter 32 vs) w:=by kernel_rfl
theorem cd30 (vs:Array Value) (w:World):(callFunc 30 vs).run Try.prog w= .ok (.enter 30 vs) w:=by kernel_rfl
theorem cd34 (vs:Array Value) (w:World):(callFunc 34 vs).run Try.prog w= .ok (.enter 34 vs) w:=by kernel_rfl
theorem cd29 (vs:Array Value) (w:World):(callFunc 29 vs).run Try.prog w= .ok (.enter 29 vs) w:=by kernel_rfl
theorem cd35 (vs:Array Value) (w:World):(callFunc 35 vs).run Try.prog w= .ok (.enter 35 vs) w:=by kernel_rfl
@[reducible] def DC (base:Bw) (w:World) (b c:Nat) (p:Lo×List Wi×List Od) (q:Rk×List Wi×List Od) (e:Ending) (w':World):Prop:=∃u v ln' lr',e= .returned (.tuple #[u,v])∧Ou w w' u p.2.2∧Ou w w' v q.2.2∧Du base w' b c p.1 p.2.1 q.1 q.2.1 ln' lr'
set_option maxHeartbeats 4000000 in
theorem does_1 (base:Bw) (w:World) (b c:Nat) (x:Sp) (s:Lo) (L:List Wi) (r:Rk) (R:List Wi) (ln lr:Value) (hD:Du base w b c s L r R ln lr) (hs:∀W ln,Blk W b 75 (s.C ln)→Ws W ln L→Sd W b ln s L) (hr:∀W lr,Blk W c 47 (r.C lr)→Ws W lr R→Rs W c lr r R) (hk:x.k=1) (ho:¬x.o= -1):Calls Try.prog 12 #[P0 b,P0 c,aggV x.C] w (DC base w b c (wantP s L x.n x.m) (rwantP r R x.n x.m)):=by
 have M:Hid (Mm [] w w []):=hide Mm.init
 have HD:=hide hD
 have HS:=hide hs
 have HR:=hide hr
 have HK:=hide hk
 have HC:Hid (c<w.heap.size):=hD.rb.lt
 have HL:Hid (∀k,lr.ownBlock=some k→k<w.heap.size):=fun k hk=>hD.rr.lt hk
 have hoa:decide (x.o= -1)=false:=nef_a ho
 have hob:(x.o == -1)=false:=nef_b ho
 have hoc:(x.o != -1)=true:=nef_c ho
 clear hD hs hr hk
 go_enter Try.func12,Try.ntmps12
 go_wp2_with (first |(refine wpBoxV rfl (.tmp 2) rfl (x.C) rfl ?_;intro W1 b1 e1 B1 K1;replace M:=hide ((unhide M).new e1 B1 K1);clear e1 B1 K1;have c0:W1.cell? ⟨b1,0,none⟩=some (.int .i64 1):=(fits_cell ((unhide M).at 0 _ rfl) 0 _ rfl).trans (by rw [show x.k=1 from unhide HK]);have c3:W1.cell? ⟨b1,3,none⟩=some (.int .i64 x.o):=fits_cell ((unhide M).at 0 _ rfl) 3 _ rfl;refine Stp.go ?_))
 constructor
 go_wp2_with fail
 refine wp_region_any mixed (wpAny_gx 14 rfl (by kernel_rfl) [some (P0 b),some (.pointer (some ⟨b1,1,none⟩)),some (.int .i64 x.n),some (.pointer (some ⟨b1,2,none⟩)),some (.int .i64 x.m),none,some (P0 c),some (.pointer (some ⟨b1,1,none⟩)),some (.int .i64 x.n),some (.pointer (some ⟨b1,2,none⟩)),some (.int .i64 x.m),none,none,none] rfl (by kernel_rfl) (fun l vs W=>(S2 base w b c b1 x s L r R ln lr (wantP s L x.n x.m) (rwantP r R x.n x.m) 5 11 12 13) (fun i=>l.getD i false) vs W) (⟨((unhide M).at 0 _ rfl).drew,(unhide M).kept.drew.size,(fun _=>⟨rfl,(unhide HD).step (unhide M).kept.drew⟩),(fun h=>by cases h),(fun h=>by cases h),(fun h=>by cases h),(fun h=>by cases h),(fun h=>by cases h),(fun h=>by cases h)⟩) ?_ ?_)
 · intro ix o' hi ho a' w2 l vs hls hlf hJ hout hin hdep hnot
   match ix,ho with
   | 0,ho=>
     obtain rfl:=Oj9 ho
     have e0:=hout 0 (by kernel_rfl)
     replace e0:a'.eval (.tmp 0)=_:=e0.trans rfl
     exact wp_move (.tmp 0) rfl _ e0 ⟨_,rfl,told_of rfl,keepG [5,11,12,13] S2.loc (by omega) (by decide) hJ⟩
   | 1,ho=>
     obtain rfl:=Oj9 ho
     have e0:=hout 5 (by kernel_rfl)
     replace e0:a'.eval (.tmp 5)=_:=e0.trans rfl
     exact o_fld33_1 (.tmp 5) rfl b1 (0) (1) rfl e0 ⟨_,rfl,told_of rfl,keepG [5,11,12,13] S2.loc (by omega) (by decide) hJ⟩
   | 2,ho=>
     obtain rfl:=Oj9 ho
     have e0:a'.eval (.tmp 22)= .pointer (some ⟨b1,1,none⟩):=by have h9:=hin 1 22 (by kernel_rfl) (by kernel_rfl);exact h9.1.trans (told_is _ h9.2 rfl)
     exact o_load3 (.tmp 22) rfl _ _ e0 (fits_cell hJ.x5 1 _ rfl) ⟨_,rfl,told_of rfl,keepG [5,11,12,13] S2.loc (by omega) (by decide) hJ⟩
   | 3,ho=>
     obtain rfl:=Oj9 ho
     have e0:=hout 5 (by kernel_rfl)
     replace e0:a'.eval (.tmp 5)=_:=e0.trans rfl
     exact o_fld33_2 (.tmp 5) rfl b1 (0) (2) rfl e0 ⟨_,rfl,told_of rfl,keepG [5,11,12,13] S2.loc (by omega) (by decide) hJ⟩
   | 4,ho=>
     obtain rfl:=Oj9 ho
     have e0:a'.eval (.tmp 24)= .pointer (some ⟨b1,2,none⟩):=by have h9:=hin 3 24 (by kernel_rfl) (by kernel_rfl);exact h9.1.trans (told_is _ h9.2 rfl)
     exact o_load31 (.tmp 24) rfl _ _ e0 (fits_cell hJ.x5 2 _ rfl) ⟨_,rfl,told_of rfl,keepG [5,11,12,13] S2.loc (by omega) (by decide) hJ⟩
   | 5,ho=>
     obtain rfl:=Oj9 ho
     have e0:a'.eval (.tmp 21)=P0 b:=by have h9:=hin 0 21 (by kernel_rfl) (by kernel_rfl);exact h9.1.trans (told_is _ h9.2 rfl)
     have e1:a'.eval (.tmp 23)= .int .i64 x.n:=by have h9:=hin 2 23 (by kernel_rfl) (by kernel_rfl);exact h9.1.trans (told_is _ h9.2 rfl)
     have e2:a'.eval (.tmp 25)= .int .i64 x.m:=by have h9:=hin 4 25 (by kernel_rfl) (by kernel_rfl);exact h9.1.trans (told_is _ h9.2 rfl)
     refine wp_callF 20 _ _ rfl #[P0 b,.int .i64 x.n,.int .i64 x.m] (by simp [e0,e1,e2]) (cd20 _ _) ((want20 s _ b L x.n x.m _ (unhide HS _ _ (hJ.n1 hlf).2.sb (hJ.n1 hlf).2.sw)).mono ?_)
     intro e w3 hq
     obtain⟨v3,ln3,rfl,hO,hD3,hK⟩:=(hJ.n1 hlf).2.prog hq
     exact⟨_,rfl,_,rfl,told_no rfl,nextG (by omega) (S2.call1 hJ (by decide) hlf (hnot 12 (by kernel_rfl)) (hnot 13 (by kernel_rfl)) hO hD3 hK)⟩
   | 6,ho=>
     obtain rfl:=Oj9 ho
     have e0:=hout 1 (by kernel_rfl)
     replace e0:a'.eval (.tmp 1)=_:=e0.trans rfl
     exact wp_move (.tmp 1) rfl _ e0 ⟨_,rfl,told_of rfl,keepG [5,11,12,13] S2.loc (by omega) (by decide) hJ⟩
   | 7,ho=>
     obtain rfl:=Oj9 ho
     have e0:=hout 5 (by kernel_rfl)
     replace e0:a'.eval (.tmp 5)=_:=e0.trans rfl
     exact o_fld33_1 (.tmp 5) rfl b1 (0) (1) rfl e0 ⟨_,rfl,told_of rfl,keepG [5,11,12,13] S2.loc (by omega) (by decide) hJ⟩
   | 8,ho=>
     obtain rfl:=Oj9 ho
     have e0:a'.eval (.tmp 28)= .pointer (some ⟨b1,1,none⟩):=by have h9:=hin 7 28 (by kernel_rfl) (by kernel_rfl);exact h9.1.trans (told_is _ h9.2 rfl)
     exact o_load3 (.tmp 28) rfl _ _ e0 (fits_cell hJ.x5 1 _ rfl) ⟨_,rfl,told_of rfl,keepG [5,11,12,13] S2.loc (by omega) (by decide) hJ⟩
   | 9,ho=>
     obtain rfl:=Oj9 ho
     have e0:=hout 5 (by kernel_rfl)
     replace e0:a'.eval (.tmp 5)=_:=e0.trans rfl
     exact o_fld33_2 (.tmp 5) rfl b1 (0) (2) rfl e0 ⟨_,rfl,told_of rfl,keepG [5,11,12,13] S2.loc (by omega) (by decide) hJ⟩
   | 10,ho=>
     obtain rfl:=Oj9 ho
     have e0:a'.eval (.tmp 30)= .pointer (some ⟨b1,2,none⟩):=by have h9:=hin 9 30 (by kernel_rfl) (by kernel_rfl);exact h9.1.trans (told_is _ h9.2 rfl)
     exact o_load31 (.tmp 30) rfl _ _ e0 (fits_cell hJ.x5 2 _ rfl) ⟨_,rfl,told_of rfl,keepG [5,11,12,13] S2.loc (by omega) (by decide) hJ⟩
   | 11,ho=>
     obtain rfl:=Oj9 ho
     have e0:a'.eval (.tmp 27)=P0 c:=by have h9:=hin 6 27 (by kernel_rfl) (by kernel_rfl);exact h9.1.trans (told_is _ h9.2 rfl)
     have e1:a'.eval (.tmp 29)= .int .i64 x.n:=by have h9:=hin 8 29 (by kernel_rfl) (by kernel_rfl);exact h9.1.trans (told_is _ h9.2 rfl)
     have e2:a'.eval (.tmp 31)= .int .i64 x.m:=by have h9:=hin 10 31 (by kernel_rfl) (by kernel_rfl);exact h9.1.trans (told_is _ h9.2 rfl)
     obtain⟨ln2,D2⟩:=hJ.n2 (hdep 5 (by kernel_rfl)) hlf
     refine wp_callF 32 _ _ rfl #[P0 c,.int .i64 x.n,.int .i64 x.m] (by simp [e0,e1,e2]) (cd32 _ _) ((rwant32 r _ c R x.n x.m _ (unhide HR _ _ D2.rb D2.rr)).mono ?_)
     intro e w3 hq
     obtain⟨v3,lr3,rfl,hO,hD3,hK⟩:=D2.doc hq
     exact⟨_,rfl,_,rfl,told_no rfl,nextG (by omega) (S2.call2 hJ (by decide) (hdep 5 (by kernel_rfl)) (hnot 13 (by kernel_rfl)) (unhide HC) (unhide HL) D2 hO hD3 hK)⟩
   | 12,ho=>
     obtain rfl:=Oj9 ho
     have e0:a'.eval (.tmp 26)=vs 5:=(hin 5 26 (by kernel_rfl) (by kernel_rfl)).1
     exact wp_assignV (.tmp 26) rfl _ e0 ⟨_,rfl,told_no rfl,nextG (by omega) (S2.as1 hJ (by decide) (hdep 5 (by kernel_rfl)))⟩
   | 13,ho=>
     obtain rfl:=Oj9 ho
     have e0:a'.eval (.tmp 32)=vs 11:=(hin 11 32 (by kernel_rfl) (by kernel_rfl)).1
     exact wp_assignV (.tmp 32) rfl _ e0 ⟨_,rfl,told_no rfl,nextG (by omega) (S2.as2 hJ (by decide) (hdep 11 (by kernel_rfl)))⟩
 intro l_ vs4 V4 hl hJ htold
 have t0:vs4 0=P0 b:=told_is _ (htold 0 (by decide)) rfl
 have t1:vs4 1= .pointer (some ⟨b1,1,none⟩):=told_is _ (htold 1 (by decide)) rfl
 have t2:vs4 2= .int .i64 x.n:=told_is _ (htold 2 (by decide)) rfl
 have t3:vs4 3= .pointer (some ⟨b1,2,none⟩):=told_is _ (htold 3 (by decide)) rfl
 have t4:vs4 4= .int .i64 x.m:=told_is _ (htold 4 (by decide)) rfl
 have t6:vs4 6=P0 c:=told_is _ (htold 6 (by decide)) rfl
 have t7:vs4 7= .pointer (some ⟨b1,1,none⟩):=told_is _ (htold 7 (by decide)) rfl
 have t8:vs4 8= .int .i64 x.n:=told_is _ (htold 8 (by decide)) rfl
 have t9:vs4 9= .pointer (some ⟨b1,2,none⟩):=told_is _ (htold 9 (by decide)) rfl
 have t10:vs4 10= .int .i64 x.m:=told_is _ (htold 10 (by decide)) rfl
 rw [show (List.range 14).map vs4= [vs4 0,vs4 1,vs4 2,vs4 3,vs4 4,vs4 5,vs4 6,vs4 7,vs4 8,vs4 9,vs4 10,vs4 11,vs4 12,vs4 13] from rfl]
 simp only [t0,t1,t2,t3,t4,t6,t7,t8,t9,t10,putAll,Act.put,List.setIfInBounds_toArray,List.set_cons_succ,List.set_cons_zero]
 clear t0 t1 t2 t3 t4 t6 t7 t8 t9 t10 htold
 obtain⟨_,ln2,lr2,D2⟩:=hJ.n3 (hl 11 (by decide))
 have o1:=hJ.o1 (hl 5 (by decide))
 have o2:=hJ.o2 (hl 11 (by decide))
 rw [← (hJ.a1 (hl 12 (by decide))).2] at o1
 rw [← (hJ.a2 (hl 13 (by decide))).2] at o2
 generalize vs4 12=u at o1⊢
 generalize vs4 13=v at o2⊢
 have HO1:=hide o1
 have HO2:=hide o2
 have HD2:=hide D2
 clear o1 o2 D2 hJ hl M
 go_wp2_with fail
 go_ret2
 exact⟨u,v,ln2,lr2,rfl,unhide HO1,unhide HO2,unhide HD2⟩
set_option maxHeartbeats 4000000 in
theorem does_3 (base:Bw) (w:World) (b c:Nat) (x:Sp) (s:Lo) (L:List Wi) (r:Rk) (R:List Wi) (ln lr:Value) (hD:Du base w b c s L r R ln lr) (hs:∀W ln,Blk W b 75 (s.C ln)→Ws W ln L→Sd W b ln s L) (hr:∀W lr,Blk W c 47 (r.C lr)→Ws W lr R→Rs W c lr r R) (hk:x.k=3) (ho:¬x.o= -1):Calls Try.prog 12 #[P0 b,P0 c,aggV x.C] w (DC base w b c (goneP s L x.n x.o) (rwentP r R x.n x.o)):=by
 have M:Hid (Mm [] w w []):=hide Mm.init
 have HD:=hide hD
 have HS:=hide hs
 have HR:=hide hr
 have HK:=hide hk
 have HC:Hid (c<w.heap.size):=hD.rb.lt
 have HL:Hid (∀k,lr.ownBlock=some k→k<w.heap.size):=fun k hk=>hD.rr.lt hk
 have hoa:decide (x.o= -1)=false:=nef_a ho
 have hob:(x.o == -1)=false:=nef_b ho
 have hoc:(x.o != -1)=true:=nef_c ho
 clear hD hs hr hk
 go_enter Try.func12,Try.ntmps12
 go_wp2_with (first |(refine wpBoxV rfl (.tmp 2) rfl (x.C) rfl ?_;intro W1 b1 e1 B1 K1;replace M:=hide ((unhide M).new e1 B1 K1);clear e1 B1 K1;have c0:W1.cell? ⟨b1,0,none⟩=some (.int .i64 3):=(fits_cell ((unhide M).at 0 _ rfl) 0 _ rfl).trans (by rw [show x.k=3 from unhide HK]);have c3:W1.cell? ⟨b1,3,none⟩=some (.int .i64 x.o):=fits_cell ((unhide M).at 0 _ rfl) 3 _ rfl;refine Stp.go ?_))
 constructor
 go_wp2_with fail
 refine wp_region_any mixed (wpAny_gx 12 rfl (by kernel_rfl) [some (P0 b),some (.pointer (some ⟨b1,1,none⟩)),some (.int .i64 x.n),some (.int .i64 x.o),none,some (P0 c),some (.pointer (some ⟨b1,1,none⟩)),some (.int .i64 x.n),some (.int .i64 x.o),none,none,none] rfl (by kernel_rfl) (fun l vs W=>(S2 base w b c b1 x s L r R ln lr (goneP s L x.n x.o) (rwentP r R x.n x.o) 4 9 10 11) (fun i=>l.getD i false) vs W) (⟨((unhide M).at 0 _ rfl).drew,(unhide M).kept.drew.size,(fun _=>⟨rfl,(unhide HD).step (unhide M).kept.drew⟩),(fun h=>by cases h),(fun h=>by cases h),(fun h=>by cases h),(fun h=>by cases h),(fun h=>by cases h),(fun h=>by cases h)⟩) ?_ ?_)
 · intro ix o' hi ho a' w2 l vs hls hlf hJ hout hin hdep hnot
   match ix,ho with
   | 0,ho=>
     obtain rfl:=Oj9 ho
     have e0:=hout 0 (by kernel_rfl)
     replace e0:a'.eval (.tmp 0)=_:=e0.trans rfl
     exact wp_move (.tmp 0) rfl _ e0 ⟨_,rfl,told_of rfl,keepG [4,9,10,11] S2.loc (by omega) (by decide) hJ⟩
   | 1,ho=>
     obtain rfl:=Oj9 ho
     have e0:=hout 5 (by kernel_rfl)
     replace e0:a'.eval (.tmp 5)=_:=e0.trans rfl
     exact o_fld33_1 (.tmp 5) rfl b1 (0) (1) rfl e0 ⟨_,rfl,told_of rfl,keepG [4,9,10,11] S2.loc (by omega) (by decide) hJ⟩
   | 2,ho=>
     obtain rfl:=Oj9 ho
     have e0:a'.eval (.tmp 47)= .pointer (some ⟨b1,1,none⟩):=by have h9:=hin 1 47 (by kernel_rfl) (by kernel_rfl);exact h9.1.trans (told_is _ h9.2 rfl)
     exact o_load3 (.tmp 47) rfl _ _ e0 (fits_cell hJ.x5 1 _ rfl) ⟨_,rfl,told_of rfl,keepG [4,9,10,11] S2.loc (by omega) (by decide) hJ⟩
   | 3,ho=>
     obtain rfl:=Oj9 ho
     have e0:=hout 8 (by kernel_rfl)
     replace e0:a'.eval (.tmp 8)=_:=e0.trans rfl
     exact wp_move (.tmp 8) rfl _ e0 ⟨_,rfl,told_of rfl,keepG [4,9,10,11] S2.loc (by omega) (by decide) hJ⟩
   | 4,ho=>
     obtain rfl:=Oj9 ho
     have e0:a'.eval (.tmp 46)=P0 b:=by have h9:=hin 0 46 (by kernel_rfl) (by kernel_rfl);exact h9.1.trans (told_is _ h9.2 rfl)
     have e1:a'.eval (.tmp 48)= .int .i64 x.n:=by have h9:=hin 2 48 (by kernel_rfl) (by kernel_rfl);exact h9.1.trans (told_is _ h9.2 rfl)
     have e2:a'.eval (.tmp 49)= .int .i64 x.o:=by have h9:=hin 3 49 (by kernel_rfl) (by kernel_rfl);exact h9.1.trans (told_is _ h9.2 rfl)
     refine wp_callF 30 _ _ rfl #[P0 b,.int .i64 x.n,.int .i64 (x.o)] (by simp [e0,e1,e2]) (cd30 _ _) ((gone30 s _ b L x.n x.o _ (unhide HS _ _ (hJ.n1 hlf).2.sb (hJ.n1 hlf).2.sw)).mono ?_)
     intro e w3 hq
     obtain⟨v3,ln3,rfl,hO,hD3,hK⟩:=(hJ.n1 hlf).2.prog hq
     exact⟨_,rfl,_,rfl,told_no rfl,nextG (by omega) (S2.call1 hJ (by decide) hlf (hnot 10 (by kernel_rfl)) (hnot 11 (by kernel_rfl)) hO hD3 hK)⟩
   | 5,ho=>
     obtain rfl:=Oj9 ho
     have e0:=hout 1 (by kernel_rfl)
     replace e0:a'.eval (.tmp 1)=_:=e0.trans rfl
     exact wp_move (.tmp 1) rfl _ e0 ⟨_,rfl,told_of rfl,keepG [4,9,10,11] S2.loc (by omega) (by decide) hJ⟩
   | 6,ho=>
     obtain rfl:=Oj9 ho
     have e0:=hout 5 (by kernel_rfl)
     replace e0:a'.eval (.tmp 5)=_:=e0.trans rfl
     exact o_fld33_1 (.tmp 5) rfl b1 (0) (1) rfl e0 ⟨_,rfl,told_of rfl,keepG [4,9,10,11] S2.loc (by omega) (by decide) hJ⟩
   | 7,ho=>
     obtain rfl:=Oj9 ho
     have e0:a'.eval (.tmp 52)= .pointer (some ⟨b1,1,none⟩):=by have h9:=hin 6 52 (by kernel_rfl) (by kernel_rfl);exact h9.1.trans (told_is _ h9.2 rfl)
     exact o_load3 (.tmp 52) rfl _ _ e0 (fits_cell hJ.x5 1 _ rfl) ⟨_,rfl,told_of rfl,keepG [4,9,10,11] S2.loc (by omega) (by decide) hJ⟩
   | 8,ho=>
     obtain rfl:=Oj9 ho
     have e0:=hout 8 (by kernel_rfl)
     replace e0:a'.eval (.tmp 8)=_:=e0.trans rfl
     exact wp_move (.tmp 8) rfl _ e0 ⟨_,rfl,told_of rfl,keepG [4,9,10,11] S2.loc (by omega) (by decide) hJ⟩
   | 9,ho=>
     obtain rfl:=Oj9 ho
     have e0:a'.eval (.tmp 51)=P0 c:=by have h9:=hin 5 51 (by kernel_rfl) (by kernel_rfl);exact h9.1.trans (told_is _ h9.2 rfl)
     have e1:a'.eval (.tmp 53)= .int .i64 x.n:=by have h9:=hin 7 53 (by kernel_rfl) (by kernel_rfl);exact h9.1.trans (told_is _ h9.2 rfl)
     have e2:a'.eval (.tmp 54)= .int .i64 x.o:=by have h9:=hin 8 54 (by kernel_rfl) (by kernel_rfl);exact h9.1.trans (told_is _ h9.2 rfl)
     obtain⟨ln2,D2⟩:=hJ.n2 (hdep 4 (by kernel_rfl)) hlf
     refine wp_callF 34 _ _ rfl #[P0 c,.int .i64 x.n,.int .i64 (x.o)] (by simp [e0,e1,e2]) (cd34 _ _) ((rwent34 r _ c R x.n x.o _ (unhide HR _ _ D2.rb D2.rr)).mono ?_)
     intro e w3 hq
     obtain⟨v3,lr3,rfl,hO,hD3,hK⟩:=D2.doc hq
     exact⟨_,rfl,_,rfl,told_no rfl,nextG (by omega) (S2.call2 hJ (by decide) (hdep 4 (by kernel_rfl)) (hnot 11 (by kernel_rfl)) (unhide HC) (unhide HL) D2 hO hD3 hK)⟩
   | 10,ho=>
     obtain rfl:=Oj9 ho
     have e0:a'.eval (.tmp 50)=vs 4:=(hin 4 50 (by kernel_rfl) (by kernel_rfl)).1
     exact wp_assignV (.tmp 50) rfl _ e0 ⟨_,rfl,told_no rfl,nextG (by omega) (S2.as1 hJ (by decide) (hdep 4 (by kernel_rfl)))⟩
   | 11,ho=>
     obtain rfl:=Oj9 ho
     have e0:a'.eval (.tmp 55)=vs 9:=(hin 9 55 (by kernel_rfl) (by kernel_rfl)).1
     exact wp_assignV (.tmp 55) rfl _ e0 ⟨_,rfl,told_no rfl,nextG (by omega) (S2.as2 hJ (by decide) (hdep 9 (by kernel_rfl)))⟩
 intro l_ vs4 V4 hl hJ htold
 have t0:vs4 0=P0 b:=told_is _ (htold 0 (by decide)) rfl
 have t1:vs4 1= .pointer (some ⟨b1,1,none⟩):=told_is _ (htold 1 (by decide)) rfl
 have t2:vs4 2= .int .i64 x.n:=told_is _ (htold 2 (by decide)) rfl
 have t3:vs4 3= .int .i64 x.o:=told_is _ (htold 3 (by decide)) rfl
 have t5:vs4 5=P0 c:=told_is _ (htold 5 (by decide)) rfl
 have t6:vs4 6= .pointer (some ⟨b1,1,none⟩):=told_is _ (htold 6 (by decide)) rfl
 have t7:vs4 7= .int .i64 x.n:=told_is _ (htold 7 (by decide)) rfl
 have t8:vs4 8= .int .i64 x.o:=told_is _ (htold 8 (by decide)) rfl
 rw [show (List.range 12).map vs4= [vs4 0,vs4 1,vs4 2,vs4 3,vs4 4,vs4 5,vs4 6,vs4 7,vs4 8,vs4 9,vs4 10,vs4 11] from rfl]
 simp only [t0,t1,t2,t3,t5,t6,t7,t8,putAll,Act.put,List.setIfInBounds_toArray,List.set_cons_succ,List.set_cons_zero]
 clear t0 t1 t2 t3 t5 t6 t7 t8 htold
 obtain⟨_,ln2,lr2,D2⟩:=hJ.n3 (hl 9 (by decide))
 have o1:=hJ.o1 (hl 4 (by decide))
 have o2:=hJ.o2 (hl 9 (by decide))
 rw [← (hJ.a1 (hl 10 (by decide))).2] at o1
 rw [← (hJ.a2 (hl 11 (by decide))).2] at o2
 generalize vs4 10=u at o1⊢
 generalize vs4 11=v at o2⊢
 have HO1:=hide o1
 have HO2:=hide o2
 have HD2:=hide D2
 clear o1 o2 D2 hJ hl M
 go_wp2_with fail
 go_ret2
 exact⟨u,v,ln2,lr2,rfl,unhide HO1,unhide HO2,unhide HD2⟩
set_option maxHeartbeats 4000000 in
theorem does_4 (base:Bw) (w:World) (b c:Nat) (x:Sp) (s:Lo) (L:List Wi) (r:Rk) (R:List Wi) (ln lr:Value) (hD:Du base w b c s L r R ln lr) (hs:∀W ln,Blk W b 75 (s.C ln)→Ws W ln L→Sd W b ln s L) (hr:∀W lr,Blk W c 47 (r.C lr)→Ws W lr R→Rs W c lr r R) (hk:x.k=4) (ho:¬x.o= -1):Calls Try.prog 12 #[P0 b,P0 c,aggV x.C] w (DC base w b c (gotP s L x.n x.o) (rgotP r R x.n x.o)):=by
 have M:Hid (Mm [] w w []):=hide Mm.init
 have HD:=hide hD
 have HS:=hide hs
 have HR:=hide hr
 have HK:=hide hk
 have HC:Hid (c<w.heap.size):=hD.rb.lt
 have HL:Hid (∀k,lr.ownBlock=some k→k<w.heap.size):=fun k hk=>hD.rr.lt hk
 have hoa:decide (x.o= -1)=false:=nef_a ho
 have hob:(x.o == -1)=false:=nef_b ho
 have hoc:(x.o != -1)=true:=nef_c ho
 clear hD hs hr hk
 go_enter Try.func12,Try.ntmps12
 go_wp2_with (first |(refine wpBoxV rfl (.tmp 2) rfl (x.C) rfl ?_;intro W1 b1 e1 B1 K1;replace M:=hide ((unhide M).new e1 B1 K1);clear e1 B1 K1;have c0:W1.cell? ⟨b1,0,none⟩=some (.int .i64 4):=(fits_cell ((unhide M).at 0 _ rfl) 0 _ rfl).trans (by rw [show x.k=4 from unhide HK]);have c3:W1.cell? ⟨b1,3,none⟩=some (.int .i64 x.o):=fits_cell ((unhide M).at 0 _ rfl) 3 _ rfl;refine Stp.go ?_))
 constructor
 go_wp2_with fail
 refine wp_region_any mixed (wpAny_gx 12 rfl (by kernel_rfl) [some (P0 b),some (.pointer (some ⟨b1,1,none⟩)),some (.int .i64 x.n),some (.int .i64 x.o),none,some (P0 c),some (.pointer (some ⟨b1,1,none⟩)),some (.int .i64 x.n),some (.int .i64 x.o),none,none,none] rfl (by kernel_rfl) (fun l vs W=>(S2 base w b c b1 x s L r R ln lr (gotP s L x.n x.o) (rgotP r R x.n x.o) 4 9 10 11) (fun i=>l.getD i false) vs W) (⟨((unhide M).at 0 _ rfl).drew,(unhide M).kept.drew.size,(fun _=>⟨rfl,(unhide HD).step (unhide M).kept.drew⟩),(fun h=>by cases h),(fun h=>by cases h),(fun h=>by cases h),(fun h=>by cases h),(fun h=>by cases h),(fun h=>by cases h)⟩) ?_ ?_)
 · intro ix o' hi ho a' w2 l vs hls hlf hJ hout hin hdep hnot
   match ix,ho with
   | 0,ho=>
     obtain rfl:=Oj9 ho
     have e0:=hout 0 (by kernel_rfl)
     replace e0:a'.eval (.tmp 0)=_:=e0.trans rfl
     exact wp_move (.tmp 0) rfl _ e0 ⟨_,rfl,told_of rfl,keepG [4,9,10,11] S2.loc (by omega) (by decide) hJ⟩
   | 1,ho=>
     obtain rfl:=Oj9 ho
     have e0:=hout 5 (by kernel_rfl)
     replace e0:a'.eval (.tmp 5)=_:=e0.trans rfl
     exact o_fld33_1 (.tmp 5) rfl b1 (0) (1) rfl e0 ⟨_,rfl,told_of rfl,keepG [4,9,10,11] S2.loc (by omega) (by decide) hJ⟩
   | 2,ho=>
     obtain rfl:=Oj9 ho
     have e0:a'.eval (.tmp 59)= .pointer (some ⟨b1,1,none⟩):=by have h9:=hin 1 59 (by kernel_rfl) (by kernel_rfl);exact h9.1.trans (told_is _ h9.2 rfl)
     exact o_load3 (.tmp 59) rfl _ _ e0 (fits_cell hJ.x5 1 _ rfl) ⟨_,rfl,told_of rfl,keepG [4,9,10,11] S2.loc (by omega) (by decide) hJ⟩
   | 3,ho=>
     obtain rfl:=Oj9 ho
     have e0:=hout 8 (by kernel_rfl)
     replace e0:a'.eval (.tmp 8)=_:=e0.trans rfl
     exact wp_move (.tmp 8) rfl _ e0 ⟨_,rfl,told_of rfl,keepG [4,9,10,11] S2.loc (by omega) (by decide) hJ⟩
   | 4,ho=>
     obtain rfl:=Oj9 ho
     have e0:a'.eval (.tmp 58)=P0 b:=by have h9:=hin 0 58 (by kernel_rfl) (by kernel_rfl);exact h9.1.trans (told_is _ h9.2 rfl)
     have e1:a'.eval (.tmp 60)= .int .i64 x.n:=by have h9:=hin 2 60 (by kernel_rfl) (by kernel_rfl);exact h9.1.trans (told_is _ h9.2 rfl)
     have e2:a'.eval (.tmp 61)= .int .i64 x.o:=by have h9:=hin 3 61 (by kernel_rfl) (by kernel_rfl);exact h9.1.trans (told_is _ h9.2 rfl)
     refine wp_callF 29 _ _ rfl #[P0 b,.int .i64 x.n,.int .i64 (x.o)] (by simp [e0,e1,e2]) (cd29 _ _) ((got29 s _ b L x.n x.o _ (unhide HS _ _ (hJ.n1 hlf).2.sb (hJ.n1 hlf).2.sw)).mono ?_)
     intro e w3 hq
     obtain⟨v3,ln3,rfl,hO,hD3,hK⟩:=(hJ.n1 hlf).2.prog hq
     exact⟨_,rfl,_,rfl,told_no rfl,nextG (by omega) (S2.call1 hJ (by decide) hlf (hnot 10 (by kernel_rfl)) (hnot 11 (by kernel_rfl)) hO hD3 hK)⟩
   | 5,ho=>
     obtain rfl:=Oj9 ho
     have e0:=hout 1 (by kernel_rfl)
     replace e0:a'.eval (.tmp 1)=_:=e0.trans rfl
     exact wp_move (.tmp 1) rfl _ e0 ⟨_,rfl,told_of rfl,keepG [4,9,10,11] S2.loc (by omega) (by decide) hJ⟩
   | 6,ho=>
     obtain rfl:=Oj9 ho
     have e0:=hout 5 (by kernel_rfl)
     replace e0:a'.eval (.tmp 5)=_:=e0.trans rfl
     exact o_fld33_1 (.tmp 5) rfl b1 (0) (1) rfl e0 ⟨_,rfl,told_of rfl,keepG [4,9,10,11] S2.loc (by omega) (by decide) hJ⟩
   | 7,ho=>
     obtain rfl:=Oj9 ho
     have e0:a'.eval (.tmp 64)= .pointer (some ⟨b1,1,none⟩):=by have h9:=hin 6 64 (by kernel_rfl) (by kernel_rfl);exact h9.1.trans (told_is _ h9.2 rfl)
     exact o_load3 (.tmp 64) rfl _ _ e0 (fits_cell hJ.x5 1 _ rfl) ⟨_,rfl,told_of rfl,keepG [4,9,10,11] S2.loc (by omega) (by decide) hJ⟩
   | 8,ho=>
     obtain rfl:=Oj9 ho
     have e0:=hout 8 (by kernel_rfl)
     replace e0:a'.eval (.tmp 8)=_:=e0.trans rfl
     exact wp_move (.tmp 8) rfl _ e0 ⟨_,rfl,told_of rfl,keepG [4,9,10,11] S2.loc (by omega) (by decide) hJ⟩
   | 9,ho=>
     obtain rfl:=Oj9 ho
     have e0:a'.eval (.tmp 63)=P0 c:=by have h9:=hin 5 63 (by kernel_rfl) (by kernel_rfl);exact h9.1.trans (told_is _ h9.2 rfl)
     have e1:a'.eval (.tmp 65)= .int .i64 x.n:=by have h9:=hin 7 65 (by kernel_rfl) (by kernel_rfl);exact h9.1.trans (told_is _ h9.2 rfl)
     have e2:a'.eval (.tmp 66)= .int .i64 x.o:=by have h9:=hin 8 66 (by kernel_rfl) (by kernel_rfl);exact h9.1.trans (told_is _ h9.2 rfl)
     obtain⟨ln2,D2⟩:=hJ.n2 (hdep 4 (by kernel_rfl)) hlf
     refine wp_callF 35 _ _ rfl #[P0 c,.int .i64 x.n,.int .i64 (x.o)] (by simp [e0,e1,e2]) (cd35 _ _) ((rgot35 r _ c R x.n x.o _ (unhide HR _ _ D2.rb D2.rr)).mono ?_)
     intro e w3 hq
     obtain⟨v3,lr3,rfl,hO,hD3,hK⟩:=D2.doc hq
     exact⟨_,rfl,_,rfl,told_no rfl,nextG (by omega) (S2.call2 hJ (by decide) (hdep 4 (by kernel_rfl)) (hnot 11 (by kernel_rfl)) (unhide HC) (unhide HL) D2 hO hD3 hK)⟩
   | 10,ho=>
     obtain rfl:=Oj9 ho
     have e0:a'.eval (.tmp 62)=vs 4:=(hin 4 62 (by kernel_rfl) (by kernel_rfl)).1
     exact wp_assignV (.tmp 62) rfl _ e0 ⟨_,rfl,told_no rfl,nextG (by omega) (S2.as1 hJ (by decide) (hdep 4 (by kernel_rfl)))⟩
   | 11,ho=>
     obtain rfl:=Oj9 ho
     have e0:a'.eval (.tmp 67)=vs 9:=(hin 9 67 (by kernel_rfl) (by kernel_rfl)).1
     exact wp_assignV (.tmp 67) rfl _ e0 ⟨_,rfl,told_no rfl,nextG (by omega) (S2.as2 hJ (by decide) (hdep 9 (by kernel_rfl)))⟩
 intro l_ vs4 V4 hl hJ htold
 have t0:vs4 0=P0 b:=told_is _ (htold 0 (by decide)) rfl
 have t1:vs4 1= .pointer (some ⟨b1,1,none⟩):=told_is _ (htold 1 (by decide)) rfl
 have t2:vs4 2= .int .i64 x.n:=told_is _ (htold 2 (by decide)) rfl
 have t3:vs4 3= .int .i64 x.o:=told_is _ (htold 3 (by decide)) rfl
 have t5:vs4 5=P0 c:=told_is _ (htold 5 (by decide)) rfl
 have t6:vs4 6= .pointer (some ⟨b1,1,none⟩):=told_is _ (htold 6 (by decide)) rfl
 have t7:vs4 7= .int .i64 x.n:=told_is _ (htold 7 (by decide)) rfl
 have t8:vs4 8= .int .i64 x.o:=told_is _ (htold 8 (by decide)) rfl
 rw [show (List.range 12).map vs4= [vs4 0,vs4 1,vs4 2,vs4 3,vs4 4,vs4 5,vs4 6,vs4 7,vs4 8,vs4 9,vs4 10,vs4 11] from rfl]
 simp only [t0,t1,t2,t3,t5,t6,t7,t8,putAll,Act.put,List.setIfInBounds_toArray,List.set_cons_succ,List.set_cons_zero]
 clear t0 t1 t2 t3 t5 t6 t7 t8 htold
 obtain⟨_,ln2,lr2,D2⟩:=hJ.n3 (hl 9 (by decide))
 have o1:=hJ.o1 (hl 4 (by decide))
 have o2:=hJ.o2 (hl 9 (by decide))
 rw [← (hJ.a1 (hl 10 (by decide))).2] at o1
 rw [← (hJ.a2 (hl 11 (by decide))).2] at o2
 generalize vs4 10=u at o1⊢
 generalize vs4 11=v at o2⊢
 have HO1:=hide o1
 have HO2:=hide o2
 have HD2:=hide D2
 clear o1 o2 D2 hJ hl M
 go_wp2_with fail
 go_ret2
 exact⟨u,v,ln2,lr2,rfl,unhide HO1,unhide HO2,unhide HD2⟩
set_option maxHeartbeats 4000000 in
theorem does_1n (base:Bw) (w:World) (b c:Nat) (x:Sp) (s:Lo) (L:List Wi) (r:Rk) (R:List Wi) (ln lr:Value) (hD:Du base w b c s L r R ln lr) (hs:∀W ln,Blk W b 75 (s.C ln)→Ws W ln L→Sd W b ln s L) (hr:∀W lr,Blk W c 47 (r.C lr)→Ws W lr R→Rs W c lr r R) (hk:x.k=1) (ho:x.o= -1):Calls Try.prog 12 #[P0 b,P0 c,aggV x.C] w (DC base w b c (wantP s L x.n x.m) (rwantP r R x.n x.m)):=by
 have M:Hid (Mm [] w w []):=hide Mm.init
 have HD:=hide hD
 have HS:=hide hs
 have HR:=hide hr
 have HK:=hide hk
 have HC:Hid (c<w.heap.size):=hD.rb.lt
 have HL:Hid (∀k,lr.ownBlock=some k→k<w.heap.size):=fun k hk=>hD.rr.lt hk
 have HO:=hide ho
 clear ho
 clear hD hs hr hk
 go_enter Try.func12,Try.ntmps12
 go_wp2_with (first |(refine wpBoxV rfl (.tmp 2) rfl (x.C) rfl ?_;intro W1 b1 e1 B1 K1;replace M:=hide ((unhide M).new e1 B1 K1);clear e1 B1 K1;have c0:W1.cell? ⟨b1,0,none⟩=some (.int .i64 1):=(fits_cell ((unhide M).at 0 _ rfl) 0 _ rfl).trans (by rw [show x.k=1 from unhide HK]);have c3:W1.cell? ⟨b1,3,none⟩=some (.int .i64 (-1)):=(fits_cell ((unhide M).at 0 _ rfl) 3 _ rfl).trans (by rw [show x.o= -1 from unhide HO]);have c9:W1.cell? ⟨c,39,none⟩=some (.int .i64 r.op):=fits_cell ((unhide HD).step (unhide M).kept).rb 39 _ rfl;refine Stp.go ?_))
 constructor
 go_wp2_with fail
 refine wp_region_any mixed (wpAny_gx 14 rfl (by kernel_rfl) [some (P0 b),some (.pointer (some ⟨b1,1,none⟩)),some (.int .i64 x.n),some (.pointer (some ⟨b1,2,none⟩)),some (.int .i64 x.m),none,some (P0 c),some (.pointer (some ⟨b1,1,none⟩)),some (.int .i64 x.n),some (.pointer (some ⟨b1,2,none⟩)),some (.int .i64 x.m),none,none,none] rfl (by kernel_rfl) (fun l vs W=>(S2 base w b c b1 x s L r R ln lr (wantP s L x.n x.m) (rwantP r R x.n x.m) 5 11 12 13) (fun i=>l.getD i false) vs W) (⟨((unhide M).at 0 _ rfl).drew,(unhide M).kept.drew.size,(fun _=>⟨rfl,(unhide HD).step (unhide M).kept.drew⟩),(fun h=>by cases h),(fun h=>by cases h),(fun h=>by cases h),(fun h=>by cases h),(fun h=>by cases h),(fun h=>by cases h)⟩) ?_ ?_)
 · intro ix o' hi ho a' w2 l vs hls hlf hJ hout hin hdep hnot
   match ix,ho with
   | 0,ho=>
     obtain rfl:=Oj9 ho
     have e0:=hout 0 (by kernel_rfl)
     replace e0:a'.eval (.tmp 0)=_:=e0.trans rfl
     exact wp_move (.tmp 0) rfl _ e0 ⟨_,rfl,told_of rfl,keepG [5,11,12,13] S2.loc (by omega) (by decide) hJ⟩
   | 1,ho=>
     obtain rfl:=Oj9 ho
     have e0:=hout 5 (by kernel_rfl)
     replace e0:a'.eval (.tmp 5)=_:=e0.trans rfl
     exact o_fld33_1 (.tmp 5) rfl b1 (0) (1) rfl e0 ⟨_,rfl,told_of rfl,keepG [5,11,12,13] S2.loc (by omega) (by decide) hJ⟩
   | 2,ho=>
     obtain rfl:=Oj9 ho
     have e0:a'.eval (.tmp 22)= .pointer (some ⟨b1,1,none⟩):=by have h9:=hin 1 22 (by kernel_rfl) (by kernel_rfl);exact h9.1.trans (told_is _ h9.2 rfl)
     exact o_load3 (.tmp 22) rfl _ _ e0 (fits_cell hJ.x5 1 _ rfl) ⟨_,rfl,told_of rfl,keepG [5,11,12,13] S2.loc (by omega) (by decide) hJ⟩
   | 3,ho=>
     obtain rfl:=Oj9 ho
     have e0:=hout 5 (by kernel_rfl)
     replace e0:a'.eval (.tmp 5)=_:=e0.trans rfl
     exact o_fld33_2 (.tmp 5) rfl b1 (0) (2) rfl e0 ⟨_,rfl,told_of rfl,keepG [5,11,12,13] S2.loc (by omega) (by decide) hJ⟩
   | 4,ho=>
     obtain rfl:=Oj9 ho
     have e0:a'.eval (.tmp 24)= .pointer (some ⟨b1,2,none⟩):=by have h9:=hin 3 24 (by kernel_rfl) (by kernel_rfl);exact h9.1.trans (told_is _ h9.2 rfl)
     exact o_load31 (.tmp 24) rfl _ _ e0 (fits_cell hJ.x5 2 _ rfl) ⟨_,rfl,told_of rfl,keepG [5,11,12,13] S2.loc (by omega) (by decide) hJ⟩
   | 5,ho=>
     obtain rfl:=Oj9 ho
     have e0:a'.eval (.tmp 21)=P0 b:=by have h9:=hin 0 21 (by kernel_rfl) (by kernel_rfl);exact h9.1.trans (told_is _ h9.2 rfl)
     have e1:a'.eval (.tmp 23)= .int .i64 x.n:=by have h9:=hin 2 23 (by kernel_rfl) (by kernel_rfl);exact h9.1.trans (told_is _ h9.2 rfl)
     have e2:a'.eval (.tmp 25)= .int .i64 x.m:=by have h9:=hin 4 25 (by kernel_rfl) (by kernel_rfl);exact h9.1.trans (told_is _ h9.2 rfl)
     refine wp_callF 20 _ _ rfl #[P0 b,.int .i64 x.n,.int .i64 x.m] (by simp [e0,e1,e2]) (cd20 _ _) ((want20 s _ b L x.n x.m _ (unhide HS _ _ (hJ.n1 hlf).2.sb (hJ.n1 hlf).2.sw)).mono ?_)
     intro e w3 hq
     obtain⟨v3,ln3,rfl,hO,hD3,hK⟩:=(hJ.n1 hlf).2.prog hq
     exact⟨_,rfl,_,rfl,told_no rfl,nextG (by omega) (S2.call1 hJ (by decide) hlf (hnot 12 (by kernel_rfl)) (hnot 13 (by kernel_rfl)) hO hD3 hK)⟩
   | 6,ho=>
     obtain rfl:=Oj9 ho
     have e0:=hout 1 (by kernel_rfl)
     replace e0:a'.eval (.tmp 1)=_:=e0.trans rfl
     exact wp_move (.tmp 1) rfl _ e0 ⟨_,rfl,told_of rfl,keepG [5,11,12,13] S2.loc (by omega) (by decide) hJ⟩
   | 7,ho=>
     obtain rfl:=Oj9 ho
     have e0:=hout 5 (by kernel_rfl)
     replace e0:a'.eval (.tmp 5)=_:=e0.trans rfl
     exact o_fld33_1 (.tmp 5) rfl b1 (0) (1) rfl e0 ⟨_,rfl,told_of rfl,keepG [5,11,12,13] S2.loc (by omega) (by decide) hJ⟩
   | 8,ho=>
     obtain rfl:=Oj9 ho
     have e0:a'.eval (.tmp 28)= .pointer (some ⟨b1,1,none⟩):=by have h9:=hin 7 28 (by kernel_rfl) (by kernel_rfl);exact h9.1.trans (told_is _ h9.2 rfl)
     exact o_load3 (.tmp 28) rfl _ _ e0 (fits_cell hJ.x5 1 _ rfl) ⟨_,rfl,told_of rfl,keepG [5,11,12,13] S2.loc (by omega) (by decide) hJ⟩
   | 9,ho=>
     obtain rfl:=Oj9 ho
     have e0:=hout 5 (by kernel_rfl)
     replace e0:a'.eval (.tmp 5)=_:=e0.trans rfl
     exact o_fld33_2 (.tmp 5) rfl b1 (0) (2) rfl e0 ⟨_,rfl,told_of rfl,keepG [5,11,12,13] S2.loc (by omega) (by decide) hJ⟩
   | 10,ho=>
     obtain rfl:=Oj9 ho
     have e0:a'.eval (.tmp 30)= .pointer (some ⟨b1,2,none⟩):=by have h9:=hin 9 30 (by kernel_rfl) (by kernel_rfl);exact h9.1.trans (told_is _ h9.2 rfl)
     exact o_load31 (.tmp 30) rfl _ _ e0 (fits_cell hJ.x5 2 _ rfl) ⟨_,rfl,told_of rfl,keepG [5,11,12,13] S2.loc (by omega) (by decide) hJ⟩
   | 11,ho=>
     obtain rfl:=Oj9 ho
     have e0:a'.eval (.tmp 27)=P0 c:=by have h9:=hin 6 27 (by kernel_rfl) (by kernel_rfl);exact h9.1.trans (told_is _ h9.2 rfl)
     have e1:a'.eval (.tmp 29)= .int .i64 x.n:=by have h9:=hin 8 29 (by kernel_rfl) (by kernel_rfl);exact h9.1.trans (told_is _ h9.2 rfl)
     have e2:a'.eval (.tmp 31)= .int .i64 x.m:=by have h9:=hin 10 31 (by kernel_rfl) (by kernel_rfl);exact h9.1.trans (told_is _ h9.2 rfl)
     obtain⟨ln2,D2⟩:=hJ.n2 (hdep 5 (by kernel_rfl)) hlf
     refine wp_callF 32 _ _ rfl #[P0 c,.int .i64 x.n,.int .i64 x.m] (by simp [e0,e1,e2]) (cd32 _ _) ((rwant32 r _ c R x.n x.m _ (unhide HR _ _ D2.rb D2.rr)).mono ?_)
     intro e w3 hq
     obtain⟨v3,lr3,rfl,hO,hD3,hK⟩:=D2.doc hq
     exact⟨_,rfl,_,rfl,told_no rfl,nextG (by omega) (S2.call2 hJ (by decide) (hdep 5 (by kernel_rfl)) (hnot 13 (by kernel_rfl)) (unhide HC) (unhide HL) D2 hO hD3 hK)⟩
   | 12,ho=>
     obtain rfl:=Oj9 ho
     have e0:a'.eval (.tmp 26)=vs 5:=(hin 5 26 (by kernel_rfl) (by kernel_rfl)).1
     exact wp_assignV (.tmp 26) rfl _ e0 ⟨_,rfl,told_no rfl,nextG (by omega) (S2.as1 hJ (by decide) (hdep 5 (by kernel_rfl)))⟩
   | 13,ho=>
     obtain rfl:=Oj9 ho
     have e0:a'.eval (.tmp 32)=vs 11:=(hin 11 32 (by kernel_rfl) (by kernel_rfl)).1
     exact wp_assignV (.tmp 32) rfl _ e0 ⟨_,rfl,told_no rfl,nextG (by omega) (S2.as2 hJ (by decide) (hdep 11 (by kernel_rfl)))⟩
 intro l_ vs4 V4 hl hJ htold
 have t0:vs4 0=P0 b:=told_is _ (htold 0 (by decide)) rfl
 have t1:vs4 1= .pointer (some ⟨b1,1,none⟩):=told_is _ (htold 1 (by decide)) rfl
 have t2:vs4 2= .int .i64 x.n:=told_is _ (htold 2 (by decide)) rfl
 have t3:vs4 3= .pointer (some ⟨b1,2,none⟩):=told_is _ (htold 3 (by decide)) rfl
 have t4:vs4 4= .int .i64 x.m:=told_is _ (htold 4 (by decide)) rfl
 have t6:vs4 6=P0 c:=told_is _ (htold 6 (by decide)) rfl
 have t7:vs4 7= .pointer (some ⟨b1,1,none⟩):=told_is _ (htold 7 (by decide)) rfl
 have t8:vs4 8= .int .i64 x.n:=told_is _ (htold 8 (by decide)) rfl
 have t9:vs4 9= .pointer (some ⟨b1,2,none⟩):=told_is _ (htold 9 (by decide)) rfl
 have t10:vs4 10= .int .i64 x.m:=told_is _ (htold 10 (by decide)) rfl
 rw [show (List.range 14).map vs4= [vs4 0,vs4 1,vs4 2,vs4 3,vs4 4,vs4 5,vs4 6,vs4 7,vs4 8,vs4 9,vs4 10,vs4 11,vs4 12,vs4 13] from rfl]
 simp only [t0,t1,t2,t3,t4,t6,t7,t8,t9,t10,putAll,Act.put,List.setIfInBounds_toArray,List.set_cons_succ,List.set_cons_zero]
 clear t0 t1 t2 t3 t4 t6 t7 t8 t9 t10 htold
 obtain⟨_,ln2,lr2,D2⟩:=hJ.n3 (hl 11 (by decide))
 have o1:=hJ.o1 (hl 5 (by decide))
 have o2:=hJ.o2 (hl 11 (by decide))
 rw [← (hJ.a1 (hl 12 (by decide))).2] at o1
 rw [← (hJ.a2 (hl 13 (by decide))).2] at o2
 generalize vs4 12=u at o1⊢
 generalize vs4 13=v at o2⊢
 have HO1:=hide o1
 have HO2:=hide o2
 have HD2:=hide D2
 clear o1 o2 D2 hJ hl M
 go_wp2_with fail
 go_ret2
 exact⟨u,v,ln2,lr2,rfl,unhide HO1,unhide HO2,unhide HD2⟩
set_option maxHeartbeats 4000000 in
theorem does_3n (base:Bw) (w:World) (b c:Nat) (x:Sp) (s:Lo) (L:List Wi) (r:Rk) (R:List Wi) (ln lr:Value) (hD:Du base w b c s L r R ln lr) (hs:∀W ln,Blk W b 75 (s.C ln)→Ws W ln L→Sd W b ln s L) (hr:∀W lr,Blk W c 47 (r.C lr)→Ws W lr R→Rs W c lr r R) (hk:x.k=3) (ho:x.o= -1):Calls Try.prog 12 #[P0 b,P0 c,aggV x.C] w (DC base w b c (goneP s L x.n r.op) (rwentP r R x.n r.op)):=by
 have M:Hid (Mm [] w w []):=hide Mm.init
 have HD:=hide hD
 have HS:=hide hs
 have HR:=hide hr
 have HK:=hide hk
 have HC:Hid (c<w.heap.size):=hD.rb.lt
 have HL:Hid (∀k,lr.ownBlock=some k→k<w.heap.size):=fun k hk=>hD.rr.lt hk
 have HO:=hide ho
 clear ho
 clear hD hs hr hk
 go_enter Try.func12,Try.ntmps12
 go_wp2_with (first |(refine wpBoxV rfl (.tmp 2) rfl (x.C) rfl ?_;intro W1 b1 e1 B1 K1;replace M:=hide ((unhide M).new e1 B1 K1);clear e1 B1 K1;have c0:W1.cell? ⟨b1,0,none⟩=some (.int .i64 3):=(fits_cell ((unhide M).at 0 _ rfl) 0 _ rfl).trans (by rw [show x.k=3 from unhide HK]);have c3:W1.cell? ⟨b1,3,none⟩=some (.int .i64 (-1)):=(fits_cell ((unhide M).at 0 _ rfl) 3 _ rfl).trans (by rw [show x.o= -1 from unhide HO]);have c9:W1.cell? ⟨c,39,none⟩=some (.int .i64 r.op):=fits_cell ((unhide HD).step (unhide M).kept).rb 39 _ rfl;refine Stp.go ?_))
 constructor
 go_wp2_with fail
 refine wp_region_any mixed (wpAny_gx 12 rfl (by kernel_rfl) [some (P0 b),some (.pointer (some ⟨b1,1,none⟩)),some (.int .i64 x.n),some (.int .i64 r.op),none,some (P0 c),some (.pointer (some ⟨b1,1,none⟩)),some (.int .i64 x.n),some (.int .i64 r.op),none,none,none] rfl (by kernel_rfl) (fun l vs W=>(S2 base w b c b1 x s L r R ln lr (goneP s L x.n r.op) (rwentP r R x.n r.op) 4 9 10 11) (fun i=>l.getD i false) vs W) (⟨((unhide M).at 0 _ rfl).drew,(unhide M).kept.drew.size,(fun _=>⟨rfl,(unhide HD).step (unhide M).kept.drew⟩),(fun h=>by cases h),(fun h=>by cases h),(fun h=>by cases h),(fun h=>by cases h),(fun h=>by cases h),(fun h=>by cases h)⟩) ?_ ?_)
 · intro ix o' hi ho a' w2 l vs hls hlf hJ hout hin hdep hnot
   match ix,ho with
   | 0,ho=>
     obtain rfl:=Oj9 ho
     have e0:=hout 0 (by kernel_rfl)
     replace e0:a'.eval (.tmp 0)=_:=e0.trans rfl
     exact wp_move (.tmp 0) rfl _ e0 ⟨_,rfl,told_of rfl,keepG [4,9,10,11] S2.loc (by omega) (by decide) hJ⟩
   | 1,ho=>
     obtain rfl:=Oj9 ho
     have e0:=hout 5 (by kernel_rfl)
     replace e0:a'.eval (.tmp 5)=_:=e0.trans rfl
     exact o_fld33_1 (.tmp 5) rfl b1 (0) (1) rfl e0 ⟨_,rfl,told_of rfl,keepG [4,9,10,11] S2.loc (by omega) (by decide) hJ⟩
   | 2,ho=>
     obtain rfl:=Oj9 ho
     have e0:a'.eval (.tmp 47)= .pointer (some ⟨b1,1,none⟩):=by have h9:=hin 1 47 (by kernel_rfl) (by kernel_rfl);exact h9.1.trans (told_is _ h9.2 rfl)
     exact o_load3 (.tmp 47) rfl _ _ e0 (fits_cell hJ.x5 1 _ rfl) ⟨_,rfl,told_of rfl,keepG [4,9,10,11] S2.loc (by omega) (by decide) hJ⟩
   | 3,ho=>
     obtain rfl:=Oj9 ho
     have e0:=hout 8 (by kernel_rfl)
     replace e0:a'.eval (.tmp 8)=_:=e0.trans rfl
     exact wp_move (.tmp 8) rfl _ e0 ⟨_,rfl,told_of rfl,keepG [4,9,10,11] S2.loc (by omega) (by decide) hJ⟩
   | 4,ho=>
     obtain rfl:=Oj9 ho
     have e0:a'.eval (.tmp 46)=P0 b:=by have h9:=hin 0 46 (by kernel_rfl) (by kernel_rfl);exact h9.1.trans (told_is _ h9.2 rfl)
     have e1:a'.eval (.tmp 48)= .int .i64 x.n:=by have h9:=hin 2 48 (by kernel_rfl) (by kernel_rfl);exact h9.1.trans (told_is _ h9.2 rfl)
     have e2:a'.eval (.tmp 49)= .int .i64 r.op:=by have h9:=hin 3 49 (by kernel_rfl) (by kernel_rfl);exact h9.1.trans (told_is _ h9.2 rfl)
     refine wp_callF 30 _ _ rfl #[P0 b,.int .i64 x.n,.int .i64 (r.op)] (by simp [e0,e1,e2]) (cd30 _ _) ((gone30 s _ b L x.n r.op _ (unhide HS _ _ (hJ.n1 hlf).2.sb (hJ.n1 hlf).2.sw)).mono ?_)
     intro e w3 hq
     obtain⟨v3,ln3,rfl,hO,hD3,hK⟩:=(hJ.n1 hlf).2.prog hq
     exact⟨_,rfl,_,rfl,told_no rfl,nextG (by omega) (S2.call1 hJ (by decide) hlf (hnot 10 (by kernel_rfl)) (hnot 11 (by kernel_rfl)) hO hD3 hK)⟩
   | 5,ho=>
     obtain rfl:=Oj9 ho
     have e0:=hout 1 (by kernel_rfl)
     replace e0:a'.eval (.tmp 1)=_:=e0.trans rfl
     exact wp_move (.tmp 1) rfl _ e0 ⟨_,rfl,told_of rfl,keepG [4,9,10,11] S2.loc (by omega) (by decide) hJ⟩
   | 6,ho=>
     obtain rfl:=Oj9 ho
     have e0:=hout 5 (by kernel_rfl)
     replace e0:a'.eval (.tmp 5)=_:=e0.trans rfl
     exact o_fld33_1 (.tmp 5) rfl b1 (0) (1) rfl e0 ⟨_,rfl,told_of rfl,keepG [4,9,10,11] S2.loc (by omega) (by decide) hJ⟩
   | 7,ho=>
     obtain rfl:=Oj9 ho
     have e0:a'.eval (.tmp 52)= .pointer (some ⟨b1,1,none⟩):=by have h9:=hin 6 52 (by kernel_rfl) (by kernel_rfl);exact h9.1.trans (told_is _ h9.2 rfl)
     exact o_load3 (.tmp 52) rfl _ _ e0 (fits_cell hJ.x5 1 _ rfl) ⟨_,rfl,told_of rfl,keepG [4,9,10,11] S2.loc (by omega) (by decide) hJ⟩
   | 8,ho=>
     obtain rfl:=Oj9 ho
     have e0:=hout 8 (by kernel_rfl)
     replace e0:a'.eval (.tmp 8)=_:=e0.trans rfl
     exact wp_move (.tmp 8) rfl _ e0 ⟨_,rfl,told_of rfl,keepG [4,9,10,11] S2.loc (by omega) (by decide) hJ⟩
   | 9,ho=>
     obtain rfl:=Oj9 ho
     have e0:a'.eval (.tmp 51)=P0 c:=by have h9:=hin 5 51 (by kernel_rfl) (by kernel_rfl);exact h9.1.trans (told_is _ h9.2 rfl)
     have e1:a'.eval (.tmp 53)= .int .i64 x.n:=by have h9:=hin 7 53 (by kernel_rfl) (by kernel_rfl);exact h9.1.trans (told_is _ h9.2 rfl)
     have e2:a'.eval (.tmp 54)= .int .i64 r.op:=by have h9:=hin 8 54 (by kernel_rfl) (by kernel_rfl);exact h9.1.trans (told_is _ h9.2 rfl)
     obtain⟨ln2,D2⟩:=hJ.n2 (hdep 4 (by kernel_rfl)) hlf
     refine wp_callF 34 _ _ rfl #[P0 c,.int .i64 x.n,.int .i64 (r.op)] (by simp [e0,e1,e2]) (cd34 _ _) ((rwent34 r _ c R x.n r.op _ (unhide HR _ _ D2.rb D2.rr)).mono ?_)
     intro e w3 hq
     obtain⟨v3,lr3,rfl,hO,hD3,hK⟩:=D2.doc hq
     exact⟨_,rfl,_,rfl,told_no rfl,nextG (by omega) (S2.call2 hJ (by decide) (hdep 4 (by kernel_rfl)) (hnot 11 (by kernel_rfl)) (unhide HC) (unhide HL) D2 hO hD3 hK)⟩
   | 10,ho=>
     obtain rfl:=Oj9 ho
     have e0:a'.eval (.tmp 50)=vs 4:=(hin 4 50 (by kernel_rfl) (by kernel_rfl)).1
     exact wp_assignV (.tmp 50) rfl _ e0 ⟨_,rfl,told_no rfl,nextG (by omega) (S2.as1 hJ (by decide) (hdep 4 (by kernel_rfl)))⟩
   | 11,ho=>
     obtain rfl:=Oj9 ho
     have e0:a'.eval (.tmp 55)=vs 9:=(hin 9 55 (by kernel_rfl) (by kernel_rfl)).1
     exact wp_assignV (.tmp 55) rfl _ e0 ⟨_,rfl,told_no rfl,nextG (by omega) (S2.as2 hJ (by decide) (hdep 9 (by kernel_rfl)))⟩
 intro l_ vs4 V4 hl hJ htold
 have t0:vs4 0=P0 b:=told_is _ (htold 0 (by decide)) rfl
 have t1:vs4 1= .pointer (some ⟨b1,1,none⟩):=told_is _ (htold 1 (by decide)) rfl
 have t2:vs4 2= .int .i64 x.n:=told_is _ (htold 2 (by decide)) rfl
 have t3:vs4 3= .int .i64 r.op:=told_is _ (htold 3 (by decide)) rfl
 have t5:vs4 5=P0 c:=told_is _ (htold 5 (by decide)) rfl
 have t6:vs4 6= .pointer (some ⟨b1,1,none⟩):=told_is _ (htold 6 (by decide)) rfl
 have t7:vs4 7= .int .i64 x.n:=told_is _ (htold 7 (by decide)) rfl
 have t8:vs4 8= .int .i64 r.op:=told_is _ (htold 8 (by decide)) rfl
 rw [show (List.range 12).map vs4= [vs4 0,vs4 1,vs4 2,vs4 3,vs4 4,vs4 5,vs4 6,vs4 7,vs4 8,vs4 9,vs4 10,vs4 11] from rfl]
 simp only [t0,t1,t2,t3,t5,t6,t7,t8,putAll,Act.put,List.setIfInBounds_toArray,List.set_cons_succ,List.set_cons_zero]
 clear t0 t1 t2 t3 t5 t6 t7 t8 htold
 obtain⟨_,ln2,lr2,D2⟩:=hJ.n3 (hl 9 (by decide))
 have o1:=hJ.o1 (hl 4 (by decide))
 have o2:=hJ.o2 (hl 9 (by decide))
 rw [← (hJ.a1 (hl 10 (by decide))).2] at o1
 rw [← (hJ.a2 (hl 11 (by decide))).2] at o2
 generalize vs4 10=u at o1⊢
 generalize vs4 11=v at o2⊢
 have HO1:=hide o1
 have HO2:=hide o2
 have HD2:=hide D2
 clear o1 o2 D2 hJ hl M
 go_wp2_with fail
 go_ret2
 exact⟨u,v,ln2,lr2,rfl,unhide HO1,unhide HO2,unhide HD2⟩
set_option maxHeartbeats 4000000 in
theorem does_4n (base:Bw) (w:World) (b c:Nat) (x:Sp) (s:Lo) (L:List Wi) (r:Rk) (R:List Wi) (ln lr:Value) (hD:Du base w b c s L r R ln lr) (hs:∀W ln,Blk W b 75 (s.C ln)→Ws W ln L→Sd W b ln s L) (hr:∀W lr,Blk W c 47 (r.C lr)→Ws W lr R→Rs W c lr r R) (hk:x.k=4) (ho:x.o= -1):Calls Try.prog 12 #[P0 b,P0 c,aggV x.C] w (DC base w b c (gotP s L x.n r.op) (rgotP r R x.n r.op)):=by
 have M:Hid (Mm [] w w []):=hide Mm.init
 have HD:=hide hD
 have HS:=hide hs
 have HR:=hide hr
 have HK:=hide hk
 have HC:Hid (c<w.heap.size):=hD.rb.lt
 have HL:Hid (∀k,lr.ownBlock=some k→k<w.heap.size):=fun k hk=>hD.rr.lt hk
 have HO:=hide ho
 clear ho
 clear hD hs hr hk
 go_enter Try.func12,Try.ntmps12
 go_wp2_with (first |(refine wpBoxV rfl (.tmp 2) rfl (x.C) rfl ?_;intro W1 b1 e1 B1 K1;replace M:=hide ((unhide M).new e1 B1 K1);clear e1 B1 K1;have c0:W1.cell? ⟨b1,0,none⟩=some (.int .i64 4):=(fits_cell ((unhide M).at 0 _ rfl) 0 _ rfl).trans (by rw [show x.k=4 from unhide HK]);have c3:W1.cell? ⟨b1,3,none⟩=some (.int .i64 (-1)):=(fits_cell ((unhide M).at 0 _ rfl) 3 _ rfl).trans (by rw [show x.o= -1 from unhide HO]);have c9:W1.cell? ⟨c,39,none⟩=some (.int .i64 r.op):=fits_cell ((unhide HD).step (unhide M).kept).rb 39 _ rfl;refine Stp.go ?_))
 constructor
 go_wp2_with fail
 refine wp_region_any mixed (wpAny_gx 12 rfl (by kernel_rfl) [some (P0 b),some (.pointer (some ⟨b1,1,none⟩)),some (.int .i64 x.n),some (.int .i64 r.op),none,some (P0 c),some (.pointer (some ⟨b1,1,none⟩)),some (.int .i64 x.n),some (.int .i64 r.op),none,none,none] rfl (by kernel_rfl) (fun l vs W=>(S2 base w b c b1 x s L r R ln lr (gotP s L x.n r.op) (rgotP r R x.n r.op) 4 9 10 11) (fun i=>l.getD i false) vs W) (⟨((unhide M).at 0 _ rfl).drew,(unhide M).kept.drew.size,(fun _=>⟨rfl,(unhide HD).step (unhide M).kept.drew⟩),(fun h=>by cases h),(fun h=>by cases h),(fun h=>by cases h),(fun h=>by cases h),(fun h=>by cases h),(fun h=>by cases h)⟩) ?_ ?_)
 · intro ix o' hi ho a' w2 l vs hls hlf hJ hout hin hdep hnot
   match ix,ho with
   | 0,ho=>
     obtain rfl:=Oj9 ho
     have e0:=hout 0 (by kernel_rfl)
     replace e0:a'.eval (.tmp 0)=_:=e0.trans rfl
     exact wp_move (.tmp 0) rfl _ e0 ⟨_,rfl,told_of rfl,keepG [4,9,10,11] S2.loc (by omega) (by decide) hJ⟩
   | 1,ho=>
     obtain rfl:=Oj9 ho
     have e0:=hout 5 (by kernel_rfl)
     replace e0:a'.eval (.tmp 5)=_:=e0.trans rfl
     exact o_fld33_1 (.tmp 5) rfl b1 (0) (1) rfl e0 ⟨_,rfl,told_of rfl,keepG [4,9,10,11] S2.loc (by omega) (by decide) hJ⟩
   | 2,ho=>
     obtain rfl:=Oj9 ho
     have e0:a'.eval (.tmp 59)= .pointer (some ⟨b1,1,none⟩):=by have h9:=hin 1 59 (by kernel_rfl) (by kernel_rfl);exact h9.1.trans (told_is _ h9.2 rfl)
     exact o_load3 (.tmp 59) rfl _ _ e0 (fits_cell hJ.x5 1 _ rfl) ⟨_,rfl,told_of rfl,keepG [4,9,10,11] S2.loc (by omega) (by decide) hJ⟩
   | 3,ho=>
     obtain rfl:=Oj9 ho
     have e0:=hout 8 (by kernel_rfl)
     replace e0:a'.eval (.tmp 8)=_:=e0.trans rfl
     exact wp_move (.tmp 8) rfl _ e0 ⟨_,rfl,told_of rfl,keepG [4,9,10,11] S2.loc (by omega) (by decide) hJ⟩
   | 4,ho=>
     obtain rfl:=Oj9 ho
     have e0:a'.eval (.tmp 58)=P0 b:=by have h9:=hin 0 58 (by kernel_rfl) (by kernel_rfl);exact h9.1.trans (told_is _ h9.2 rfl)
     have e1:a'.eval (.tmp 60)= .int .i64 x.n:=by have h9:=hin 2 60 (by kernel_rfl) (by kernel_rfl);exact h9.1.trans (told_is _ h9.2 rfl)
     have e2:a'.eval (.tmp 61)= .int .i64 r.op:=by have h9:=hin 3 61 (by kernel_rfl) (by kernel_rfl);exact h9.1.trans (told_is _ h9.2 rfl)
     refine wp_callF 29 _ _ rfl #[P0 b,.int .i64 x.n,.int .i64 (r.op)] (by simp [e0,e1,e2]) (cd29 _ _) ((got29 s _ b L x.n r.op _ (unhide HS _ _ (hJ.n1 hlf).2.sb (hJ.n1 hlf).2.sw)).mono ?_)
     intro e w3 hq
     obtain⟨v3,ln3,rfl,hO,hD3,hK⟩:=(hJ.n1 hlf).2.prog hq
     exact⟨_,rfl,_,rfl,told_no rfl,nextG (by omega) (S2.call1 hJ (by decide) hlf (hnot 10 (by kernel_rfl)) (hnot 11 (by kernel_rfl)) hO hD3 hK)⟩
   | 5,ho=>
     obtain rfl:=Oj9 ho
     have e0:=hout 1 (by kernel_rfl)
     replace e0:a'.eval (.tmp 1)=_:=e0.trans rfl
     exact wp_move (.tmp 1) rfl _ e0 ⟨_,rfl,told_of rfl,keepG [4,9,10,11] S2.loc (by omega) (by decide) hJ⟩
   | 6,ho=>
     obtain rfl:=Oj9 ho
     have e0:=hout 5 (by kernel_rfl)
     replace e0:a'.eval (.tmp 5)=_:=e0.trans rfl
     exact o_fld33_1 (.tmp 5) rfl b1 (0) (1) rfl e0 ⟨_,rfl,told_of rfl,keepG [4,9,10,11] S2.loc (by omega) (by decide) hJ⟩
   | 7,ho=>
     obtain rfl:=Oj9 ho
     have e0:a'.eval (.tmp 64)= .pointer (some ⟨b1,1,none⟩):=by have h9:=hin 6 64 (by kernel_rfl) (by kernel_rfl);exact h9.1.trans (told_is _ h9.2 rfl)
     exact o_load3 (.tmp 64) rfl _ _ e0 (fits_cell hJ.x5 1 _ rfl) ⟨_,rfl,told_of rfl,keepG [4,9,10,11] S2.loc (by omega) (by decide) hJ⟩
   | 8,ho=>
     obtain rfl:=Oj9 ho
     have e0:=hout 8 (by kernel_rfl)
     replace e0:a'.eval (.tmp 8)=_:=e0.trans rfl
     exact wp_move (.tmp 8) rfl _ e0 ⟨_,rfl,told_of rfl,keepG [4,9,10,11] S2.loc (by omega) (by decide) hJ⟩
   | 9,ho=>
     obtain rfl:=Oj9 ho
     have e0:a'.eval (.tmp 63)=P0 c:=by have h9:=hin 5 63 (by kernel_rfl) (by kernel_rfl);exact h9.1.trans (told_is _ h9.2 rfl)
     have e1:a'.eval (.tmp 65)= .int .i64 x.n:=by have h9:=hin 7 65 (by kernel_rfl) (by kernel_rfl);exact h9.1.trans (told_is _ h9.2 rfl)
     have e2:a'.eval (.tmp 66)= .int .i64 r.op:=by have h9:=hin 8 66 (by kernel_rfl) (by kernel_rfl);exact h9.1.trans (told_is _ h9.2 rfl)
     obtain⟨ln2,D2⟩:=hJ.n2 (hdep 4 (by kernel_rfl)) hlf
     refine wp_callF 35 _ _ rfl #[P0 c,.int .i64 x.n,.int .i64 (r.op)] (by simp [e0,e1,e2]) (cd35 _ _) ((rgot35 r _ c R x.n r.op _ (unhide HR _ _ D2.rb D2.rr)).mono ?_)
     intro e w3 hq
     obtain⟨v3,lr3,rfl,hO,hD3,hK⟩:=D2.doc hq
     exact⟨_,rfl,_,rfl,told_no rfl,nextG (by omega) (S2.call2 hJ (by decide) (hdep 4 (by kernel_rfl)) (hnot 11 (by kernel_rfl)) (unhide HC) (unhide HL) D2 hO hD3 hK)⟩
   | 10,ho=>
     obtain rfl:=Oj9 ho
     have e0:a'.eval (.tmp 62)=vs 4:=(hin 4 62 (by kernel_rfl) (by kernel_rfl)).1
     exact wp_assignV (.tmp 62) rfl _ e0 ⟨_,rfl,told_no rfl,nextG (by omega) (S2.as1 hJ (by decide) (hdep 4 (by kernel_rfl)))⟩
   | 11,ho=>
     obtain rfl:=Oj9 ho
     have e0:a'.eval (.tmp 67)=vs 9:=(hin 9 67 (by kernel_rfl) (by kernel_rfl)).1
     exact wp_assignV (.tmp 67) rfl _ e0 ⟨_,rfl,told_no rfl,nextG (by omega) (S2.as2 hJ (by decide) (hdep 9 (by kernel_rfl)))⟩
 intro l_ vs4 V4 hl hJ htold
 have t0:vs4 0=P0 b:=told_is _ (htold 0 (by decide)) rfl
 have t1:vs4 1= .pointer (some ⟨b1,1,none⟩):=told_is _ (htold 1 (by decide)) rfl
 have t2:vs4 2= .int .i64 x.n:=told_is _ (htold 2 (by decide)) rfl
 have t3:vs4 3= .int .i64 r.op:=told_is _ (htold 3 (by decide)) rfl
 have t5:vs4 5=P0 c:=told_is _ (htold 5 (by decide)) rfl
 have t6:vs4 6= .pointer (some ⟨b1,1,none⟩):=told_is _ (htold 6 (by decide)) rfl
 have t7:vs4 7= .int .i64 x.n:=told_is _ (htold 7 (by decide)) rfl
 have t8:vs4 8= .int .i64 r.op:=told_is _ (htold 8 (by decide)) rfl
 rw [show (List.range 12).map vs4= [vs4 0,vs4 1,vs4 2,vs4 3,vs4 4,vs4 5,vs4 6,vs4 7,vs4 8,vs4 9,vs4 10,vs4 11] from rfl]
 simp only [t0,t1,t2,t3,t5,t6,t7,t8,putAll,Act.put,List.setIfInBounds_toArray,List.set_cons_succ,List.set_cons_zero]
 clear t0 t1 t2 t3 t5 t6 t7 t8 htold
 obtain⟨_,ln2,lr2,D2⟩:=hJ.n3 (hl 9 (by decide))
 have o1:=hJ.o1 (hl 4 (by decide))
 have o2:=hJ.o2 (hl 9 (by decide))
 rw [← (hJ.a1 (hl 10 (by decide))).2] at o1
 rw [← (hJ.a2 (hl 11 (by decide))).2] at o2
 generalize vs4 10=u at o1⊢
 generalize vs4 11=v at o2⊢
 have HO1:=hide o1
 have HO2:=hide o2
 have HD2:=hide D2
 clear o1 o2 D2 hJ hl M
 go_wp2_with fail
 go_ret2
 exact⟨u,v,ln2,lr2,rfl,unhide HO1,unhide HO2,unhide HD2⟩
end Go.Proofs.Ytabicgbnloabnaa
