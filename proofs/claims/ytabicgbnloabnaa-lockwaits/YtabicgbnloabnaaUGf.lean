import Derived.Test.YtabicgbnloabnaaUGe
namespace Go.Proofs.Ytabicgbnloabnaa
set_option maxRecDepth 100000
set_option linter.unusedSimpArgs false
open Go.RowKit
theorem ce22 (vs:Array Value) (w:World):(callFunc 22 vs).run Try.prog w= .ok (.enter 22 vs) w:=by kernel_rfl
theorem ce37 (vs:Array Value) (w:World):(callFunc 37 vs).run Try.prog w= .ok (.enter 37 vs) w:=by kernel_rfl
theorem ce31 (vs:Array Value) (w:World):(callFunc 31 vs).run Try.prog w= .ok (.enter 31 vs) w:=by kernel_rfl
theorem ce38 (vs:Array Value) (w:World):(callFunc 38 vs).run Try.prog w= .ok (.enter 38 vs) w:=by kernel_rfl
theorem ce36 (vs:Array Value) (w:World):(callFunc 36 vs).run Try.prog w= .ok (.enter 36 vs) w:=by kernel_rfl
structure S5 (base:Bw) (w:World) (b c b5:Nat) (x:Sp) (s:Lo) (L:List Wi) (r:Rk) (R:List Wi) (ln lr:Value) (p:Lo×List Wi×List Od) (q:Rk×List Wi×List Od) (k1 k2 k3 k4 kh:Nat) (d:Nat→Bool) (vs:Nat→Value) (W:World):Prop where
 s:S2 base w b c b5 x s L r R ln lr p q k1 k2 k3 k4 d vs W
 hh:d kh=true→d k1=true
theorem S5.loc {base:Bw} {w:World} {b c b5:Nat} {x:Sp} {s:Lo} {L R:List Wi} {r:Rk} {ln lr:Value} {p:Lo×List Wi×List Od} {q:Rk×List Wi×List Od} {k1 k2 k3 k4 kh:Nat} :∀d d' vs vs' W,(∀i∈ [k1,k2,k3,k4,kh],d i=d' i∧vs i=vs' i)→S5 base w b c b5 x s L r R ln lr p q k1 k2 k3 k4 kh d vs W→S5 base w b c b5 x s L r R ln lr p q k1 k2 k3 k4 kh d' vs' W:=by
 intro d d' vs vs' W H h
 refine⟨S2.loc _ _ _ _ _ (fun i hi=>H i (by simp at hi ⊢;omega)) h.s,?_⟩
 rw [← (H kh (by simp)).1,← (H k1 (by simp)).1]
 exact h.hh
theorem S5.of {base:Bw} {w W W':World} {b c b5:Nat} {x:Sp} {s:Lo} {L R:List Wi} {r:Rk} {ln lr:Value} {p:Lo×List Wi×List Od} {q:Rk×List Wi×List Od} {k1 k2 k3 k4 kh:Nat} {d:Nat→Bool} {vs:Nat→Value} (h:S5 base w b c b5 x s L r R ln lr p q k1 k2 k3 k4 kh d vs W) {j:Nat} {v:Value} (h2:S2 base w b c b5 x s L r R ln lr p q k1 k2 k3 k4 (fun i=>if i=j then true else d i) (fun i=>if i=j then v else vs i) W') (hj:kh=j→d k1=true):S5 base w b c b5 x s L r R ln lr p q k1 k2 k3 k4 kh (fun i=>if i=j then true else d i) (fun i=>if i=j then v else vs i) W':=by
 refine⟨h2,fun e=> ?_⟩
 by_cases h1:k1=j
 · simp [h1]
 · simp only [if_neg h1]
   by_cases h3:kh=j
   · exact hj h3
   · simp only [if_neg h3] at e;exact h.hh e
set_option maxHeartbeats 4000000 in
theorem does_5 (base:Bw) (w:World) (b c:Nat) (x:Sp) (s:Lo) (L:List Wi) (r:Rk) (R:List Wi) (ln lr:Value) (hD:Du base w b c s L r R ln lr) (hs:∀W ln,Blk W b 75 (s.C ln)→Ws W ln L→Sd W b ln s L) (hr:∀W lr,Blk W c 47 (r.C lr)→Ws W lr R→Rs W c lr r R) (hk:x.k=5) (ho:¬x.o= -1):Calls Try.prog 12 #[P0 b,P0 c,aggV x.C] w (DC base w b c (relP s L x.n (heldP r x)) (rrelP r R x.n (heldP r x))):=by
 have M:Hid (Mm [] w w []):=hide Mm.init
 have HD:=hide hD
 have HS:=hide hs
 have HR:=hide hr
 have HK:=hide hk
 have HC:Hid (c<w.heap.size):=hD.rb.lt
 have HL:Hid (∀k,lr.ownBlock=some k→k<w.heap.size):=fun k hk=>hD.rr.lt hk
 have hoa:decide (x.o= -1)=false:=nef_a ho
 have hob:(x.o == -1)=false:=nef_b ho
 have hoc:(x.o != -1)=true:=nef_c ho
 clear hD hs hr hk
 go_enter Try.func12,Try.ntmps12
 go_wp2_with (first |(refine wpBoxV rfl (.tmp 2) rfl (x.C) rfl ?_;intro W1 b1 e1 B1 K1;replace M:=hide ((unhide M).new e1 B1 K1);clear e1 B1 K1;have c0:W1.cell? ⟨b1,0,none⟩=some (.int .i64 5):=(fits_cell ((unhide M).at 0 _ rfl) 0 _ rfl).trans (by rw [show x.k=5 from unhide HK]);have c3:W1.cell? ⟨b1,3,none⟩=some (.int .i64 x.o):=fits_cell ((unhide M).at 0 _ rfl) 3 _ rfl;refine Stp.go ?_))
 constructor
 go_wp2_with fail
 refine wp_region_any mixed (wpAny_gx 16 rfl (by kernel_rfl) [some (P0 b),some (.pointer (some ⟨b1,1,none⟩)),some (.int .i64 x.n),some (P0 c),some (aggV x.C),some (.int .i64 (heldP r x)),none,some (P0 c),some (.pointer (some ⟨b1,1,none⟩)),some (.int .i64 x.n),some (P0 c),some (aggV x.C),some (.int .i64 (heldP r x)),none,none,none] rfl (by kernel_rfl) (fun l vs W=>(S5 base w b c b1 x s L r R ln lr (relP s L x.n (heldP r x)) (rrelP r R x.n (heldP r x)) 6 13 14 15 12) (fun i=>l.getD i false) vs W) (⟨⟨((unhide M).at 0 _ rfl).drew,(unhide M).kept.drew.size,(fun _=>⟨rfl,(unhide HD).step (unhide M).kept.drew⟩),(fun h=>by cases h),(fun h=>by cases h),(fun h=>by cases h),(fun h=>by cases h),(fun h=>by cases h),(fun h=>by cases h)⟩,(fun h=>by cases h)⟩) ?_ ?_)
 · intro ix o' hi ho a' w2 l vs hls hlf hJ hout hin hdep hnot
   match ix,ho with
   | 0,ho=>
     obtain rfl:=Oj9 ho
     have e0:=hout 0 (by kernel_rfl)
     replace e0:a'.eval (.tmp 0)=_:=e0.trans rfl
     exact wp_move (.tmp 0) rfl _ e0 ⟨_,rfl,told_of rfl,keepG [6,13,14,15,12] S5.loc (by omega) (by decide) hJ⟩
   | 1,ho=>
     obtain rfl:=Oj9 ho
     have e0:=hout 5 (by kernel_rfl)
     replace e0:a'.eval (.tmp 5)=_:=e0.trans rfl
     exact o_fld33_1 (.tmp 5) rfl b1 (0) (1) rfl e0 ⟨_,rfl,told_of rfl,keepG [6,13,14,15,12] S5.loc (by omega) (by decide) hJ⟩
   | 2,ho=>
     obtain rfl:=Oj9 ho
     have e0:a'.eval (.tmp 71)= .pointer (some ⟨b1,1,none⟩):=by have h9:=hin 1 71 (by kernel_rfl) (by kernel_rfl);exact h9.1.trans (told_is _ h9.2 rfl)
     exact o_load3 (.tmp 71) rfl _ _ e0 (fits_cell hJ.s.x5 1 _ rfl) ⟨_,rfl,told_of rfl,keepG [6,13,14,15,12] S5.loc (by omega) (by decide) hJ⟩
   | 3,ho=>
     obtain rfl:=Oj9 ho
     have e0:=hout 1 (by kernel_rfl)
     replace e0:a'.eval (.tmp 1)=_:=e0.trans rfl
     exact wp_move (.tmp 1) rfl _ e0 ⟨_,rfl,told_of rfl,keepG [6,13,14,15,12] S5.loc (by omega) (by decide) hJ⟩
   | 4,ho=>
     obtain rfl:=Oj9 ho
     have e0:=hout 5 (by kernel_rfl)
     replace e0:a'.eval (.tmp 5)=_:=e0.trans rfl
     exact wp_loadA row33 (.tmp 5) rfl b1 (0) e0 (x.C) rfl (hJ.s.x5.range) ⟨_,rfl,told_of rfl,keepG [6,13,14,15,12] S5.loc (by omega) (by decide) hJ⟩
   | 5,ho=>
     obtain rfl:=Oj9 ho
     have e0:a'.eval (.tmp 73)=P0 c:=by have h9:=hin 3 73 (by kernel_rfl) (by kernel_rfl);exact h9.1.trans (told_is _ h9.2 rfl)
     have e1:a'.eval (.tmp 74)=aggV x.C:=by have h9:=hin 4 74 (by kernel_rfl) (by kernel_rfl);exact h9.1.trans (told_is _ h9.2 rfl)
     refine wp_callF 36 _ _ rfl #[P0 c,aggV x.C] (by simp [e0,e1]) (ce36 _ _) ((held36 r _ c x _ (hJ.s.n1 (hnot 6 (by kernel_rfl))).2.rb).mono ?_)
     rintro e w3 ⟨rfl,hk3⟩
     exact⟨_,rfl,_,rfl,told_of rfl,nextG (by omega) (S5.of hJ (S2.next hJ.s hk3 5 _ (by decide)) (fun h=>absurd h (by decide)))⟩
   | 6,ho=>
     obtain rfl:=Oj9 ho
     have e0:a'.eval (.tmp 70)=P0 b:=by have h9:=hin 0 70 (by kernel_rfl) (by kernel_rfl);exact h9.1.trans (told_is _ h9.2 rfl)
     have e1:a'.eval (.tmp 72)= .int .i64 x.n:=by have h9:=hin 2 72 (by kernel_rfl) (by kernel_rfl);exact h9.1.trans (told_is _ h9.2 rfl)
     have e2:a'.eval (.tmp 75)= .int .i64 (heldP r x):=by have h9:=hin 5 75 (by kernel_rfl) (by kernel_rfl);exact h9.1.trans (told_is _ h9.2 rfl)
     refine wp_callF 22 _ _ rfl #[P0 b,.int .i64 x.n,.int .i64 (heldP r x)] (by simp [e0,e1,e2]) (ce22 _ _) ((rel22 s _ b L x.n (heldP r x) _ (unhide HS _ _ (hJ.s.n1 hlf).2.sb (hJ.s.n1 hlf).2.sw)).mono ?_)
     intro e w3 hq
     obtain⟨v3,ln3,rfl,hO,hD3,hK⟩:=(hJ.s.n1 hlf).2.prog hq
     exact⟨_,rfl,_,rfl,told_no rfl,nextG (by omega) (S5.of hJ (S2.call1 hJ.s (by decide) hlf (hnot 14 (by kernel_rfl)) (hnot 15 (by kernel_rfl)) hO hD3 hK) (fun h=>absurd h (by decide)))⟩
   | 7,ho=>
     obtain rfl:=Oj9 ho
     have e0:=hout 1 (by kernel_rfl)
     replace e0:a'.eval (.tmp 1)=_:=e0.trans rfl
     exact wp_move (.tmp 1) rfl _ e0 ⟨_,rfl,told_of rfl,keepG [6,13,14,15,12] S5.loc (by omega) (by decide) hJ⟩
   | 8,ho=>
     obtain rfl:=Oj9 ho
     have e0:=hout 5 (by kernel_rfl)
     replace e0:a'.eval (.tmp 5)=_:=e0.trans rfl
     exact o_fld33_1 (.tmp 5) rfl b1 (0) (1) rfl e0 ⟨_,rfl,told_of rfl,keepG [6,13,14,15,12] S5.loc (by omega) (by decide) hJ⟩
   | 9,ho=>
     obtain rfl:=Oj9 ho
     have e0:a'.eval (.tmp 78)= .pointer (some ⟨b1,1,none⟩):=by have h9:=hin 8 78 (by kernel_rfl) (by kernel_rfl);exact h9.1.trans (told_is _ h9.2 rfl)
     exact o_load3 (.tmp 78) rfl _ _ e0 (fits_cell hJ.s.x5 1 _ rfl) ⟨_,rfl,told_of rfl,keepG [6,13,14,15,12] S5.loc (by omega) (by decide) hJ⟩
   | 10,ho=>
     obtain rfl:=Oj9 ho
     have e0:=hout 1 (by kernel_rfl)
     replace e0:a'.eval (.tmp 1)=_:=e0.trans rfl
     exact wp_move (.tmp 1) rfl _ e0 ⟨_,rfl,told_of rfl,keepG [6,13,14,15,12] S5.loc (by omega) (by decide) hJ⟩
   | 11,ho=>
     obtain rfl:=Oj9 ho
     have e0:=hout 5 (by kernel_rfl)
     replace e0:a'.eval (.tmp 5)=_:=e0.trans rfl
     exact wp_loadA row33 (.tmp 5) rfl b1 (0) e0 (x.C) rfl (hJ.s.x5.range) ⟨_,rfl,told_of rfl,keepG [6,13,14,15,12] S5.loc (by omega) (by decide) hJ⟩
   | 12,ho=>
     obtain rfl:=Oj9 ho
     have e0:a'.eval (.tmp 80)=P0 c:=by have h9:=hin 10 80 (by kernel_rfl) (by kernel_rfl);exact h9.1.trans (told_is _ h9.2 rfl)
     have e1:a'.eval (.tmp 81)=aggV x.C:=by have h9:=hin 11 81 (by kernel_rfl) (by kernel_rfl);exact h9.1.trans (told_is _ h9.2 rfl)
     obtain⟨ln2,D2⟩:=hJ.s.n2 (hdep 6 (by kernel_rfl)) (hnot 13 (by kernel_rfl))
     refine wp_callF 36 _ _ rfl #[P0 c,aggV x.C] (by simp [e0,e1]) (ce36 _ _) ((held36 r _ c x _ D2.rb).mono ?_)
     rintro e w3 ⟨rfl,hk3⟩
     exact⟨_,rfl,_,rfl,told_of rfl,nextG (by omega) (S5.of hJ (S2.next hJ.s hk3 12 _ (by decide)) (fun _=>hdep 6 (by kernel_rfl)))⟩
   | 13,ho=>
     obtain rfl:=Oj9 ho
     have e0:a'.eval (.tmp 77)=P0 c:=by have h9:=hin 7 77 (by kernel_rfl) (by kernel_rfl);exact h9.1.trans (told_is _ h9.2 rfl)
     have e1:a'.eval (.tmp 79)= .int .i64 x.n:=by have h9:=hin 9 79 (by kernel_rfl) (by kernel_rfl);exact h9.1.trans (told_is _ h9.2 rfl)
     have e2:a'.eval (.tmp 82)= .int .i64 (heldP r x):=by have h9:=hin 12 82 (by kernel_rfl) (by kernel_rfl);exact h9.1.trans (told_is _ h9.2 rfl)
     obtain⟨ln2,D2⟩:=hJ.s.n2 (hJ.hh (hdep 12 (by kernel_rfl))) hlf
     refine wp_callF 37 _ _ rfl #[P0 c,.int .i64 x.n,.int .i64 (heldP r x)] (by simp [e0,e1,e2]) (ce37 _ _) ((rrel37 r _ c R x.n (heldP r x) _ (unhide HR _ _ D2.rb D2.rr)).mono ?_)
     intro e w3 hq
     obtain⟨v3,lr3,rfl,hO,hD3,hK⟩:=D2.doc hq
     exact⟨_,rfl,_,rfl,told_no rfl,nextG (by omega) (S5.of hJ (S2.call2 hJ.s (by decide) (hJ.hh (hdep 12 (by kernel_rfl))) (hnot 15 (by kernel_rfl)) (unhide HC) (unhide HL) D2 hO hD3 hK) (fun h=>absurd h (by decide)))⟩
   | 14,ho=>
     obtain rfl:=Oj9 ho
     have e0:a'.eval (.tmp 76)=vs 6:=(hin 6 76 (by kernel_rfl) (by kernel_rfl)).1
     exact wp_assignV (.tmp 76) rfl _ e0 ⟨_,rfl,told_no rfl,nextG (by omega) (S5.of hJ (S2.as1 hJ.s (by decide) (hdep 6 (by kernel_rfl))) (fun h=>absurd h (by decide)))⟩
   | 15,ho=>
     obtain rfl:=Oj9 ho
     have e0:a'.eval (.tmp 83)=vs 13:=(hin 13 83 (by kernel_rfl) (by kernel_rfl)).1
     exact wp_assignV (.tmp 83) rfl _ e0 ⟨_,rfl,told_no rfl,nextG (by omega) (S5.of hJ (S2.as2 hJ.s (by decide) (hdep 13 (by kernel_rfl))) (fun h=>absurd h (by decide)))⟩
 intro l_ vs4 V4 hl hJ htold
 have t0:vs4 0=P0 b:=told_is _ (htold 0 (by decide)) rfl
 have t1:vs4 1= .pointer (some ⟨b1,1,none⟩):=told_is _ (htold 1 (by decide)) rfl
 have t2:vs4 2= .int .i64 x.n:=told_is _ (htold 2 (by decide)) rfl
 have t3:vs4 3=P0 c:=told_is _ (htold 3 (by decide)) rfl
 have t4:vs4 4=aggV x.C:=told_is _ (htold 4 (by decide)) rfl
 have t5:vs4 5= .int .i64 (heldP r x):=told_is _ (htold 5 (by decide)) rfl
 have t7:vs4 7=P0 c:=told_is _ (htold 7 (by decide)) rfl
 have t8:vs4 8= .pointer (some ⟨b1,1,none⟩):=told_is _ (htold 8 (by decide)) rfl
 have t9:vs4 9= .int .i64 x.n:=told_is _ (htold 9 (by decide)) rfl
 have t10:vs4 10=P0 c:=told_is _ (htold 10 (by decide)) rfl
 have t11:vs4 11=aggV x.C:=told_is _ (htold 11 (by decide)) rfl
 have t12:vs4 12= .int .i64 (heldP r x):=told_is _ (htold 12 (by decide)) rfl
 rw [show (List.range 16).map vs4= [vs4 0,vs4 1,vs4 2,vs4 3,vs4 4,vs4 5,vs4 6,vs4 7,vs4 8,vs4 9,vs4 10,vs4 11,vs4 12,vs4 13,vs4 14,vs4 15] from rfl]
 simp only [t0,t1,t2,t3,t4,t5,t7,t8,t9,t10,t11,t12,putAll,Act.put,List.setIfInBounds_toArray,List.set_cons_succ,List.set_cons_zero]
 clear t0 t1 t2 t3 t4 t5 t7 t8 t9 t10 t11 t12 htold
 obtain⟨_,ln2,lr2,D2⟩:=hJ.s.n3 (hl 13 (by decide))
 have o1:=hJ.s.o1 (hl 6 (by decide))
 have o2:=hJ.s.o2 (hl 13 (by decide))
 rw [← (hJ.s.a1 (hl 14 (by decide))).2] at o1
 rw [← (hJ.s.a2 (hl 15 (by decide))).2] at o2
 generalize vs4 14=u at o1⊢
 generalize vs4 15=v at o2⊢
 have HO1:=hide o1
 have HO2:=hide o2
 have HD2:=hide D2
 clear o1 o2 D2 hJ hl M
 go_wp2_with fail
 go_ret2
 exact⟨u,v,ln2,lr2,rfl,unhide HO1,unhide HO2,unhide HD2⟩
set_option maxHeartbeats 4000000 in
theorem does_6 (base:Bw) (w:World) (b c:Nat) (x:Sp) (s:Lo) (L:List Wi) (r:Rk) (R:List Wi) (ln lr:Value) (hD:Du base w b c s L r R ln lr) (hs:∀W ln,Blk W b 75 (s.C ln)→Ws W ln L→Sd W b ln s L) (hr:∀W lr,Blk W c 47 (r.C lr)→Ws W lr R→Rs W c lr r R) (hk:x.k=6) (ho:¬x.o= -1):Calls Try.prog 12 #[P0 b,P0 c,aggV x.C] w (DC base w b c (wroteP s L x.n (heldP r x) x.p) (rwroteP r R x.n (heldP r x) x.p)):=by
 have M:Hid (Mm [] w w []):=hide Mm.init
 have HD:=hide hD
 have HS:=hide hs
 have HR:=hide hr
 have HK:=hide hk
 have HC:Hid (c<w.heap.size):=hD.rb.lt
 have HL:Hid (∀k,lr.ownBlock=some k→k<w.heap.size):=fun k hk=>hD.rr.lt hk
 have hoa:decide (x.o= -1)=false:=nef_a ho
 have hob:(x.o == -1)=false:=nef_b ho
 have hoc:(x.o != -1)=true:=nef_c ho
 clear hD hs hr hk
 go_enter Try.func12,Try.ntmps12
 go_wp2_with (first |(refine wpBoxV rfl (.tmp 2) rfl (x.C) rfl ?_;intro W1 b1 e1 B1 K1;replace M:=hide ((unhide M).new e1 B1 K1);clear e1 B1 K1;have c0:W1.cell? ⟨b1,0,none⟩=some (.int .i64 6):=(fits_cell ((unhide M).at 0 _ rfl) 0 _ rfl).trans (by rw [show x.k=6 from unhide HK]);have c3:W1.cell? ⟨b1,3,none⟩=some (.int .i64 x.o):=fits_cell ((unhide M).at 0 _ rfl) 3 _ rfl;refine Stp.go ?_))
 constructor
 go_wp2_with fail
 refine wp_region_any mixed (wpAny_gx 20 rfl (by kernel_rfl) [some (P0 b),some (.pointer (some ⟨b1,1,none⟩)),some (.int .i64 x.n),some (P0 c),some (aggV x.C),some (.int .i64 (heldP r x)),some (.pointer (some ⟨b1,4,none⟩)),some (.int .i64 x.p),none,some (P0 c),some (.pointer (some ⟨b1,1,none⟩)),some (.int .i64 x.n),some (P0 c),some (aggV x.C),some (.int .i64 (heldP r x)),some (.pointer (some ⟨b1,4,none⟩)),some (.int .i64 x.p),none,none,none] rfl (by kernel_rfl) (fun l vs W=>(S5 base w b c b1 x s L r R ln lr (wroteP s L x.n (heldP r x) x.p) (rwroteP r R x.n (heldP r x) x.p) 8 17 18 19 14) (fun i=>l.getD i false) vs W) (⟨⟨((unhide M).at 0 _ rfl).drew,(unhide M).kept.drew.size,(fun _=>⟨rfl,(unhide HD).step (unhide M).kept.drew⟩),(fun h=>by cases h),(fun h=>by cases h),(fun h=>by cases h),(fun h=>by cases h),(fun h=>by cases h),(fun h=>by cases h)⟩,(fun h=>by cases h)⟩) ?_ ?_)
 · intro ix o' hi ho a' w2 l vs hls hlf hJ hout hin hdep hnot
   match ix,ho with
   | 0,ho=>
     obtain rfl:=Oj9 ho
     have e0:=hout 0 (by kernel_rfl)
     replace e0:a'.eval (.tmp 0)=_:=e0.trans rfl
     exact wp_move (.tmp 0) rfl _ e0 ⟨_,rfl,told_of rfl,keepG [8,17,18,19,14] S5.loc (by omega) (by decide) hJ⟩
   | 1,ho=>
     obtain rfl:=Oj9 ho
     have e0:=hout 5 (by kernel_rfl)
     replace e0:a'.eval (.tmp 5)=_:=e0.trans rfl
     exact o_fld33_1 (.tmp 5) rfl b1 (0) (1) rfl e0 ⟨_,rfl,told_of rfl,keepG [8,17,18,19,14] S5.loc (by omega) (by decide) hJ⟩
   | 2,ho=>
     obtain rfl:=Oj9 ho
     have e0:a'.eval (.tmp 87)= .pointer (some ⟨b1,1,none⟩):=by have h9:=hin 1 87 (by kernel_rfl) (by kernel_rfl);exact h9.1.trans (told_is _ h9.2 rfl)
     exact o_load3 (.tmp 87) rfl _ _ e0 (fits_cell hJ.s.x5 1 _ rfl) ⟨_,rfl,told_of rfl,keepG [8,17,18,19,14] S5.loc (by omega) (by decide) hJ⟩
   | 3,ho=>
     obtain rfl:=Oj9 ho
     have e0:=hout 1 (by kernel_rfl)
     replace e0:a'.eval (.tmp 1)=_:=e0.trans rfl
     exact wp_move (.tmp 1) rfl _ e0 ⟨_,rfl,told_of rfl,keepG [8,17,18,19,14] S5.loc (by omega) (by decide) hJ⟩
   | 4,ho=>
     obtain rfl:=Oj9 ho
     have e0:=hout 5 (by kernel_rfl)
     replace e0:a'.eval (.tmp 5)=_:=e0.trans rfl
     exact wp_loadA row33 (.tmp 5) rfl b1 (0) e0 (x.C) rfl (hJ.s.x5.range) ⟨_,rfl,told_of rfl,keepG [8,17,18,19,14] S5.loc (by omega) (by decide) hJ⟩
   | 5,ho=>
     obtain rfl:=Oj9 ho
     have e0:a'.eval (.tmp 89)=P0 c:=by have h9:=hin 3 89 (by kernel_rfl) (by kernel_rfl);exact h9.1.trans (told_is _ h9.2 rfl)
     have e1:a'.eval (.tmp 90)=aggV x.C:=by have h9:=hin 4 90 (by kernel_rfl) (by kernel_rfl);exact h9.1.trans (told_is _ h9.2 rfl)
     refine wp_callF 36 _ _ rfl #[P0 c,aggV x.C] (by simp [e0,e1]) (ce36 _ _) ((held36 r _ c x _ (hJ.s.n1 (hnot 8 (by kernel_rfl))).2.rb).mono ?_)
     rintro e w3 ⟨rfl,hk3⟩
     exact⟨_,rfl,_,rfl,told_of rfl,nextG (by omega) (S5.of hJ (S2.next hJ.s hk3 5 _ (by decide)) (fun h=>absurd h (by decide)))⟩
   | 6,ho=>
     obtain rfl:=Oj9 ho
     have e0:=hout 5 (by kernel_rfl)
     replace e0:a'.eval (.tmp 5)=_:=e0.trans rfl
     exact o_fld33_4 (.tmp 5) rfl b1 (0) (4) rfl e0 ⟨_,rfl,told_of rfl,keepG [8,17,18,19,14] S5.loc (by omega) (by decide) hJ⟩
   | 7,ho=>
     obtain rfl:=Oj9 ho
     have e0:a'.eval (.tmp 92)= .pointer (some ⟨b1,4,none⟩):=by have h9:=hin 6 92 (by kernel_rfl) (by kernel_rfl);exact h9.1.trans (told_is _ h9.2 rfl)
     exact o_load2 (.tmp 92) rfl _ _ e0 (fits_cell hJ.s.x5 4 _ rfl) ⟨_,rfl,told_of rfl,keepG [8,17,18,19,14] S5.loc (by omega) (by decide) hJ⟩
   | 8,ho=>
     obtain rfl:=Oj9 ho
     have e0:a'.eval (.tmp 86)=P0 b:=by have h9:=hin 0 86 (by kernel_rfl) (by kernel_rfl);exact h9.1.trans (told_is _ h9.2 rfl)
     have e1:a'.eval (.tmp 88)= .int .i64 x.n:=by have h9:=hin 2 88 (by kernel_rfl) (by kernel_rfl);exact h9.1.trans (told_is _ h9.2 rfl)
     have e2:a'.eval (.tmp 91)= .int .i64 (heldP r x):=by have h9:=hin 5 91 (by kernel_rfl) (by kernel_rfl);exact h9.1.trans (told_is _ h9.2 rfl)
     have e3:a'.eval (.tmp 93)= .int .i64 x.p:=by have h9:=hin 7 93 (by kernel_rfl) (by kernel_rfl);exact h9.1.trans (told_is _ h9.2 rfl)
     refine wp_callF 31 _ _ rfl #[P0 b,.int .i64 x.n,.int .i64 (heldP r x),.int .i64 x.p] (by simp [e0,e1,e2,e3]) (ce31 _ _) ((wrote31 s _ b L x.n (heldP r x) x.p _ (unhide HS _ _ (hJ.s.n1 hlf).2.sb (hJ.s.n1 hlf).2.sw)).mono ?_)
     intro e w3 hq
     obtain⟨v3,ln3,rfl,hO,hD3,hK⟩:=(hJ.s.n1 hlf).2.prog hq
     exact⟨_,rfl,_,rfl,told_no rfl,nextG (by omega) (S5.of hJ (S2.call1 hJ.s (by decide) hlf (hnot 18 (by kernel_rfl)) (hnot 19 (by kernel_rfl)) hO hD3 hK) (fun h=>absurd h (by decide)))⟩
   | 9,ho=>
     obtain rfl:=Oj9 ho
     have e0:=hout 1 (by kernel_rfl)
     replace e0:a'.eval (.tmp 1)=_:=e0.trans rfl
     exact wp_move (.tmp 1) rfl _ e0 ⟨_,rfl,told_of rfl,keepG [8,17,18,19,14] S5.loc (by omega) (by decide) hJ⟩
   | 10,ho=>
     obtain rfl:=Oj9 ho
     have e0:=hout 5 (by kernel_rfl)
     replace e0:a'.eval (.tmp 5)=_:=e0.trans rfl
     exact o_fld33_1 (.tmp 5) rfl b1 (0) (1) rfl e0 ⟨_,rfl,told_of rfl,keepG [8,17,18,19,14] S5.loc (by omega) (by decide) hJ⟩
   | 11,ho=>
     obtain rfl:=Oj9 ho
     have e0:a'.eval (.tmp 96)= .pointer (some ⟨b1,1,none⟩):=by have h9:=hin 10 96 (by kernel_rfl) (by kernel_rfl);exact h9.1.trans (told_is _ h9.2 rfl)
     exact o_load3 (.tmp 96) rfl _ _ e0 (fits_cell hJ.s.x5 1 _ rfl) ⟨_,rfl,told_of rfl,keepG [8,17,18,19,14] S5.loc (by omega) (by decide) hJ⟩
   | 12,ho=>
     obtain rfl:=Oj9 ho
     have e0:=hout 1 (by kernel_rfl)
     replace e0:a'.eval (.tmp 1)=_:=e0.trans rfl
     exact wp_move (.tmp 1) rfl _ e0 ⟨_,rfl,told_of rfl,keepG [8,17,18,19,14] S5.loc (by omega) (by decide) hJ⟩
   | 13,ho=>
     obtain rfl:=Oj9 ho
     have e0:=hout 5 (by kernel_rfl)
     replace e0:a'.eval (.tmp 5)=_:=e0.trans rfl
     exact wp_loadA row33 (.tmp 5) rfl b1 (0) e0 (x.C) rfl (hJ.s.x5.range) ⟨_,rfl,told_of rfl,keepG [8,17,18,19,14] S5.loc (by omega) (by decide) hJ⟩
   | 14,ho=>
     obtain rfl:=Oj9 ho
     have e0:a'.eval (.tmp 98)=P0 c:=by have h9:=hin 12 98 (by kernel_rfl) (by kernel_rfl);exact h9.1.trans (told_is _ h9.2 rfl)
     have e1:a'.eval (.tmp 99)=aggV x.C:=by have h9:=hin 13 99 (by kernel_rfl) (by kernel_rfl);exact h9.1.trans (told_is _ h9.2 rfl)
     obtain⟨ln2,D2⟩:=hJ.s.n2 (hdep 8 (by kernel_rfl)) (hnot 17 (by kernel_rfl))
     refine wp_callF 36 _ _ rfl #[P0 c,aggV x.C] (by simp [e0,e1]) (ce36 _ _) ((held36 r _ c x _ D2.rb).mono ?_)
     rintro e w3 ⟨rfl,hk3⟩
     exact⟨_,rfl,_,rfl,told_of rfl,nextG (by omega) (S5.of hJ (S2.next hJ.s hk3 14 _ (by decide)) (fun _=>hdep 8 (by kernel_rfl)))⟩
   | 15,ho=>
     obtain rfl:=Oj9 ho
     have e0:=hout 5 (by kernel_rfl)
     replace e0:a'.eval (.tmp 5)=_:=e0.trans rfl
     exact o_fld33_4 (.tmp 5) rfl b1 (0) (4) rfl e0 ⟨_,rfl,told_of rfl,keepG [8,17,18,19,14] S5.loc (by omega) (by decide) hJ⟩
   | 16,ho=>
     obtain rfl:=Oj9 ho
     have e0:a'.eval (.tmp 101)= .pointer (some ⟨b1,4,none⟩):=by have h9:=hin 15 101 (by kernel_rfl) (by kernel_rfl);exact h9.1.trans (told_is _ h9.2 rfl)
     exact o_load2 (.tmp 101) rfl _ _ e0 (fits_cell hJ.s.x5 4 _ rfl) ⟨_,rfl,told_of rfl,keepG [8,17,18,19,14] S5.loc (by omega) (by decide) hJ⟩
   | 17,ho=>
     obtain rfl:=Oj9 ho
     have e0:a'.eval (.tmp 95)=P0 c:=by have h9:=hin 9 95 (by kernel_rfl) (by kernel_rfl);exact h9.1.trans (told_is _ h9.2 rfl)
     have e1:a'.eval (.tmp 97)= .int .i64 x.n:=by have h9:=hin 11 97 (by kernel_rfl) (by kernel_rfl);exact h9.1.trans (told_is _ h9.2 rfl)
     have e2:a'.eval (.tmp 100)= .int .i64 (heldP r x):=by have h9:=hin 14 100 (by kernel_rfl) (by kernel_rfl);exact h9.1.trans (told_is _ h9.2 rfl)
     have e3:a'.eval (.tmp 102)= .int .i64 x.p:=by have h9:=hin 16 102 (by kernel_rfl) (by kernel_rfl);exact h9.1.trans (told_is _ h9.2 rfl)
     obtain⟨ln2,D2⟩:=hJ.s.n2 (hJ.hh (hdep 14 (by kernel_rfl))) hlf
     refine wp_callF 38 _ _ rfl #[P0 c,.int .i64 x.n,.int .i64 (heldP r x),.int .i64 x.p] (by simp [e0,e1,e2,e3]) (ce38 _ _) ((rwrote38 r _ c R x.n (heldP r x) x.p _ (unhide HR _ _ D2.rb D2.rr)).mono ?_)
     intro e w3 hq
     obtain⟨v3,lr3,rfl,hO,hD3,hK⟩:=D2.doc hq
     exact⟨_,rfl,_,rfl,told_no rfl,nextG (by omega) (S5.of hJ (S2.call2 hJ.s (by decide) (hJ.hh (hdep 14 (by kernel_rfl))) (hnot 19 (by kernel_rfl)) (unhide HC) (unhide HL) D2 hO hD3 hK) (fun h=>absurd h (by decide)))⟩
   | 18,ho=>
     obtain rfl:=Oj9 ho
     have e0:a'.eval (.tmp 94)=vs 8:=(hin 8 94 (by kernel_rfl) (by kernel_rfl)).1
     exact wp_assignV (.tmp 94) rfl _ e0 ⟨_,rfl,told_no rfl,nextG (by omega) (S5.of hJ (S2.as1 hJ.s (by decide) (hdep 8 (by kernel_rfl))) (fun h=>absurd h (by decide)))⟩
   | 19,ho=>
     obtain rfl:=Oj9 ho
     have e0:a'.eval (.tmp 103)=vs 17:=(hin 17 103 (by kernel_rfl) (by kernel_rfl)).1
     exact wp_assignV (.tmp 103) rfl _ e0 ⟨_,rfl,told_no rfl,nextG (by omega) (S5.of hJ (S2.as2 hJ.s (by decide) (hdep 17 (by kernel_rfl))) (fun h=>absurd h (by decide)))⟩
 intro l_ vs4 V4 hl hJ htold
 have t0:vs4 0=P0 b:=told_is _ (htold 0 (by decide)) rfl
 have t1:vs4 1= .pointer (some ⟨b1,1,none⟩):=told_is _ (htold 1 (by decide)) rfl
 have t2:vs4 2= .int .i64 x.n:=told_is _ (htold 2 (by decide)) rfl
 have t3:vs4 3=P0 c:=told_is _ (htold 3 (by decide)) rfl
 have t4:vs4 4=aggV x.C:=told_is _ (htold 4 (by decide)) rfl
 have t5:vs4 5= .int .i64 (heldP r x):=told_is _ (htold 5 (by decide)) rfl
 have t6:vs4 6= .pointer (some ⟨b1,4,none⟩):=told_is _ (htold 6 (by decide)) rfl
 have t7:vs4 7= .int .i64 x.p:=told_is _ (htold 7 (by decide)) rfl
 have t9:vs4 9=P0 c:=told_is _ (htold 9 (by decide)) rfl
 have t10:vs4 10= .pointer (some ⟨b1,1,none⟩):=told_is _ (htold 10 (by decide)) rfl
 have t11:vs4 11= .int .i64 x.n:=told_is _ (htold 11 (by decide)) rfl
 have t12:vs4 12=P0 c:=told_is _ (htold 12 (by decide)) rfl
 have t13:vs4 13=aggV x.C:=told_is _ (htold 13 (by decide)) rfl
 have t14:vs4 14= .int .i64 (heldP r x):=told_is _ (htold 14 (by decide)) rfl
 have t15:vs4 15= .pointer (some ⟨b1,4,none⟩):=told_is _ (htold 15 (by decide)) rfl
 have t16:vs4 16= .int .i64 x.p:=told_is _ (htold 16 (by decide)) rfl
 rw [show (List.range 20).map vs4= [vs4 0,vs4 1,vs4 2,vs4 3,vs4 4,vs4 5,vs4 6,vs4 7,vs4 8,vs4 9,vs4 10,vs4 11,vs4 12,vs4 13,vs4 14,vs4 15,vs4 16,vs4 17,vs4 18,vs4 19] from rfl]
 simp only [t0,t1,t2,t3,t4,t5,t6,t7,t9,t10,t11,t12,t13,t14,t15,t16,putAll,Act.put,List.setIfInBounds_toArray,List.set_cons_succ,List.set_cons_zero]
 clear t0 t1 t2 t3 t4 t5 t6 t7 t9 t10 t11 t12 t13 t14 t15 t16 htold
 obtain⟨_,ln2,lr2,D2⟩:=hJ.s.n3 (hl 17 (by decide))
 have o1:=hJ.s.o1 (hl 8 (by decide))
 have o2:=hJ.s.o2 (hl 17 (by decide))
 rw [← (hJ.s.a1 (hl 18 (by decide))).2] at o1
 rw [← (hJ.s.a2 (hl 19 (by decide))).2] at o2
 generalize vs4 18=u at o1⊢
 generalize vs4 19=v at o2⊢
 have HO1:=hide o1
 have HO2:=hide o2
 have HD2:=hide D2
 clear o1 o2 D2 hJ hl M
 go_wp2_with fail
 go_ret2
 exact⟨u,v,ln2,lr2,rfl,unhide HO1,unhide HO2,unhide HD2⟩
set_option maxHeartbeats 4000000 in
theorem does_5n (base:Bw) (w:World) (b c:Nat) (x:Sp) (s:Lo) (L:List Wi) (r:Rk) (R:List Wi) (ln lr:Value) (hD:Du base w b c s L r R ln lr) (hs:∀W ln,Blk W b 75 (s.C ln)→Ws W ln L→Sd W b ln s L) (hr:∀W lr,Blk W c 47 (r.C lr)→Ws W lr R→Rs W c lr r R) (hk:x.k=5) (ho:x.o= -1):Calls Try.prog 12 #[P0 b,P0 c,aggV x.C] w (DC base w b c (relP s L x.n (heldP r x)) (rrelP r R x.n (heldP r x))):=by
 have M:Hid (Mm [] w w []):=hide Mm.init
 have HD:=hide hD
 have HS:=hide hs
 have HR:=hide hr
 have HK:=hide hk
 have HC:Hid (c<w.heap.size):=hD.rb.lt
 have HL:Hid (∀k,lr.ownBlock=some k→k<w.heap.size):=fun k hk=>hD.rr.lt hk
 have HO:=hide ho
 clear ho
 clear hD hs hr hk
 go_enter Try.func12,Try.ntmps12
 go_wp2_with (first |(refine wpBoxV rfl (.tmp 2) rfl (x.C) rfl ?_;intro W1 b1 e1 B1 K1;replace M:=hide ((unhide M).new e1 B1 K1);clear e1 B1 K1;have c0:W1.cell? ⟨b1,0,none⟩=some (.int .i64 5):=(fits_cell ((unhide M).at 0 _ rfl) 0 _ rfl).trans (by rw [show x.k=5 from unhide HK]);have c3:W1.cell? ⟨b1,3,none⟩=some (.int .i64 (-1)):=(fits_cell ((unhide M).at 0 _ rfl) 3 _ rfl).trans (by rw [show x.o= -1 from unhide HO]);have c9:W1.cell? ⟨c,39,none⟩=some (.int .i64 r.op):=fits_cell ((unhide HD).step (unhide M).kept).rb 39 _ rfl;refine Stp.go ?_))
 constructor
 go_wp2_with fail
 refine wp_region_any mixed (wpAny_gx 16 rfl (by kernel_rfl) [some (P0 b),some (.pointer (some ⟨b1,1,none⟩)),some (.int .i64 x.n),some (P0 c),some (aggV x.C),some (.int .i64 (heldP r x)),none,some (P0 c),some (.pointer (some ⟨b1,1,none⟩)),some (.int .i64 x.n),some (P0 c),some (aggV x.C),some (.int .i64 (heldP r x)),none,none,none] rfl (by kernel_rfl) (fun l vs W=>(S5 base w b c b1 x s L r R ln lr (relP s L x.n (heldP r x)) (rrelP r R x.n (heldP r x)) 6 13 14 15 12) (fun i=>l.getD i false) vs W) (⟨⟨((unhide M).at 0 _ rfl).drew,(unhide M).kept.drew.size,(fun _=>⟨rfl,(unhide HD).step (unhide M).kept.drew⟩),(fun h=>by cases h),(fun h=>by cases h),(fun h=>by cases h),(fun h=>by cases h),(fun h=>by cases h),(fun h=>by cases h)⟩,(fun h=>by cases h)⟩) ?_ ?_)
 · intro ix o' hi ho a' w2 l vs hls hlf hJ hout hin hdep hnot
   match ix,ho with
   | 0,ho=>
     obtain rfl:=Oj9 ho
     have e0:=hout 0 (by kernel_rfl)
     replace e0:a'.eval (.tmp 0)=_:=e0.trans rfl
     exact wp_move (.tmp 0) rfl _ e0 ⟨_,rfl,told_of rfl,keepG [6,13,14,15,12] S5.loc (by omega) (by decide) hJ⟩
   | 1,ho=>
     obtain rfl:=Oj9 ho
     have e0:=hout 5 (by kernel_rfl)
     replace e0:a'.eval (.tmp 5)=_:=e0.trans rfl
     exact o_fld33_1 (.tmp 5) rfl b1 (0) (1) rfl e0 ⟨_,rfl,told_of rfl,keepG [6,13,14,15,12] S5.loc (by omega) (by decide) hJ⟩
   | 2,ho=>
     obtain rfl:=Oj9 ho
     have e0:a'.eval (.tmp 71)= .pointer (some ⟨b1,1,none⟩):=by have h9:=hin 1 71 (by kernel_rfl) (by kernel_rfl);exact h9.1.trans (told_is _ h9.2 rfl)
     exact o_load3 (.tmp 71) rfl _ _ e0 (fits_cell hJ.s.x5 1 _ rfl) ⟨_,rfl,told_of rfl,keepG [6,13,14,15,12] S5.loc (by omega) (by decide) hJ⟩
   | 3,ho=>
     obtain rfl:=Oj9 ho
     have e0:=hout 1 (by kernel_rfl)
     replace e0:a'.eval (.tmp 1)=_:=e0.trans rfl
     exact wp_move (.tmp 1) rfl _ e0 ⟨_,rfl,told_of rfl,keepG [6,13,14,15,12] S5.loc (by omega) (by decide) hJ⟩
   | 4,ho=>
     obtain rfl:=Oj9 ho
     have e0:=hout 5 (by kernel_rfl)
     replace e0:a'.eval (.tmp 5)=_:=e0.trans rfl
     exact wp_loadA row33 (.tmp 5) rfl b1 (0) e0 (x.C) rfl (hJ.s.x5.range) ⟨_,rfl,told_of rfl,keepG [6,13,14,15,12] S5.loc (by omega) (by decide) hJ⟩
   | 5,ho=>
     obtain rfl:=Oj9 ho
     have e0:a'.eval (.tmp 73)=P0 c:=by have h9:=hin 3 73 (by kernel_rfl) (by kernel_rfl);exact h9.1.trans (told_is _ h9.2 rfl)
     have e1:a'.eval (.tmp 74)=aggV x.C:=by have h9:=hin 4 74 (by kernel_rfl) (by kernel_rfl);exact h9.1.trans (told_is _ h9.2 rfl)
     refine wp_callF 36 _ _ rfl #[P0 c,aggV x.C] (by simp [e0,e1]) (ce36 _ _) ((held36 r _ c x _ (hJ.s.n1 (hnot 6 (by kernel_rfl))).2.rb).mono ?_)
     rintro e w3 ⟨rfl,hk3⟩
     exact⟨_,rfl,_,rfl,told_of rfl,nextG (by omega) (S5.of hJ (S2.next hJ.s hk3 5 _ (by decide)) (fun h=>absurd h (by decide)))⟩
   | 6,ho=>
     obtain rfl:=Oj9 ho
     have e0:a'.eval (.tmp 70)=P0 b:=by have h9:=hin 0 70 (by kernel_rfl) (by kernel_rfl);exact h9.1.trans (told_is _ h9.2 rfl)
     have e1:a'.eval (.tmp 72)= .int .i64 x.n:=by have h9:=hin 2 72 (by kernel_rfl) (by kernel_rfl);exact h9.1.trans (told_is _ h9.2 rfl)
     have e2:a'.eval (.tmp 75)= .int .i64 (heldP r x):=by have h9:=hin 5 75 (by kernel_rfl) (by kernel_rfl);exact h9.1.trans (told_is _ h9.2 rfl)
     refine wp_callF 22 _ _ rfl #[P0 b,.int .i64 x.n,.int .i64 (heldP r x)] (by simp [e0,e1,e2]) (ce22 _ _) ((rel22 s _ b L x.n (heldP r x) _ (unhide HS _ _ (hJ.s.n1 hlf).2.sb (hJ.s.n1 hlf).2.sw)).mono ?_)
     intro e w3 hq
     obtain⟨v3,ln3,rfl,hO,hD3,hK⟩:=(hJ.s.n1 hlf).2.prog hq
     exact⟨_,rfl,_,rfl,told_no rfl,nextG (by omega) (S5.of hJ (S2.call1 hJ.s (by decide) hlf (hnot 14 (by kernel_rfl)) (hnot 15 (by kernel_rfl)) hO hD3 hK) (fun h=>absurd h (by decide)))⟩
   | 7,ho=>
     obtain rfl:=Oj9 ho
     have e0:=hout 1 (by kernel_rfl)
     replace e0:a'.eval (.tmp 1)=_:=e0.trans rfl
     exact wp_move (.tmp 1) rfl _ e0 ⟨_,rfl,told_of rfl,keepG [6,13,14,15,12] S5.loc (by omega) (by decide) hJ⟩
   | 8,ho=>
     obtain rfl:=Oj9 ho
     have e0:=hout 5 (by kernel_rfl)
     replace e0:a'.eval (.tmp 5)=_:=e0.trans rfl
     exact o_fld33_1 (.tmp 5) rfl b1 (0) (1) rfl e0 ⟨_,rfl,told_of rfl,keepG [6,13,14,15,12] S5.loc (by omega) (by decide) hJ⟩
   | 9,ho=>
     obtain rfl:=Oj9 ho
     have e0:a'.eval (.tmp 78)= .pointer (some ⟨b1,1,none⟩):=by have h9:=hin 8 78 (by kernel_rfl) (by kernel_rfl);exact h9.1.trans (told_is _ h9.2 rfl)
     exact o_load3 (.tmp 78) rfl _ _ e0 (fits_cell hJ.s.x5 1 _ rfl) ⟨_,rfl,told_of rfl,keepG [6,13,14,15,12] S5.loc (by omega) (by decide) hJ⟩
   | 10,ho=>
     obtain rfl:=Oj9 ho
     have e0:=hout 1 (by kernel_rfl)
     replace e0:a'.eval (.tmp 1)=_:=e0.trans rfl
     exact wp_move (.tmp 1) rfl _ e0 ⟨_,rfl,told_of rfl,keepG [6,13,14,15,12] S5.loc (by omega) (by decide) hJ⟩
   | 11,ho=>
     obtain rfl:=Oj9 ho
     have e0:=hout 5 (by kernel_rfl)
     replace e0:a'.eval (.tmp 5)=_:=e0.trans rfl
     exact wp_loadA row33 (.tmp 5) rfl b1 (0) e0 (x.C) rfl (hJ.s.x5.range) ⟨_,rfl,told_of rfl,keepG [6,13,14,15,12] S5.loc (by omega) (by decide) hJ⟩
   | 12,ho=>
     obtain rfl:=Oj9 ho
     have e0:a'.eval (.tmp 80)=P0 c:=by have h9:=hin 10 80 (by kernel_rfl) (by kernel_rfl);exact h9.1.trans (told_is _ h9.2 rfl)
     have e1:a'.eval (.tmp 81)=aggV x.C:=by have h9:=hin 11 81 (by kernel_rfl) (by kernel_rfl);exact h9.1.trans (told_is _ h9.2 rfl)
     obtain⟨ln2,D2⟩:=hJ.s.n2 (hdep 6 (by kernel_rfl)) (hnot 13 (by kernel_rfl))
     refine wp_callF 36 _ _ rfl #[P0 c,aggV x.C] (by simp [e0,e1]) (ce36 _ _) ((held36 r _ c x _ D2.rb).mono ?_)
     rintro e w3 ⟨rfl,hk3⟩
     exact⟨_,rfl,_,rfl,told_of rfl,nextG (by omega) (S5.of hJ (S2.next hJ.s hk3 12 _ (by decide)) (fun _=>hdep 6 (by kernel_rfl)))⟩
   | 13,ho=>
     obtain rfl:=Oj9 ho
     have e0:a'.eval (.tmp 77)=P0 c:=by have h9:=hin 7 77 (by kernel_rfl) (by kernel_rfl);exact h9.1.trans (told_is _ h9.2 rfl)
     have e1:a'.eval (.tmp 79)= .int .i64 x.n:=by have h9:=hin 9 79 (by kernel_rfl) (by kernel_rfl);exact h9.1.trans (told_is _ h9.2 rfl)
     have e2:a'.eval (.tmp 82)= .int .i64 (heldP r x):=by have h9:=hin 12 82 (by kernel_rfl) (by kernel_rfl);exact h9.1.trans (told_is _ h9.2 rfl)
     obtain⟨ln2,D2⟩:=hJ.s.n2 (hJ.hh (hdep 12 (by kernel_rfl))) hlf
     refine wp_callF 37 _ _ rfl #[P0 c,.int .i64 x.n,.int .i64 (heldP r x)] (by simp [e0,e1,e2]) (ce37 _ _) ((rrel37 r _ c R x.n (heldP r x) _ (unhide HR _ _ D2.rb D2.rr)).mono ?_)
     intro e w3 hq
     obtain⟨v3,lr3,rfl,hO,hD3,hK⟩:=D2.doc hq
     exact⟨_,rfl,_,rfl,told_no rfl,nextG (by omega) (S5.of hJ (S2.call2 hJ.s (by decide) (hJ.hh (hdep 12 (by kernel_rfl))) (hnot 15 (by kernel_rfl)) (unhide HC) (unhide HL) D2 hO hD3 hK) (fun h=>absurd h (by decide)))⟩
   | 14,ho=>
     obtain rfl:=Oj9 ho
     have e0:a'.eval (.tmp 76)=vs 6:=(hin 6 76 (by kernel_rfl) (by kernel_rfl)).1
     exact wp_assignV (.tmp 76) rfl _ e0 ⟨_,rfl,told_no rfl,nextG (by omega) (S5.of hJ (S2.as1 hJ.s (by decide) (hdep 6 (by kernel_rfl))) (fun h=>absurd h (by decide)))⟩
   | 15,ho=>
     obtain rfl:=Oj9 ho
     have e0:a'.eval (.tmp 83)=vs 13:=(hin 13 83 (by kernel_rfl) (by kernel_rfl)).1
     exact wp_assignV (.tmp 83) rfl _ e0 ⟨_,rfl,told_no rfl,nextG (by omega) (S5.of hJ (S2.as2 hJ.s (by decide) (hdep 13 (by kernel_rfl))) (fun h=>absurd h (by decide)))⟩
 intro l_ vs4 V4 hl hJ htold
 have t0:vs4 0=P0 b:=told_is _ (htold 0 (by decide)) rfl
 have t1:vs4 1= .pointer (some ⟨b1,1,none⟩):=told_is _ (htold 1 (by decide)) rfl
 have t2:vs4 2= .int .i64 x.n:=told_is _ (htold 2 (by decide)) rfl
 have t3:vs4 3=P0 c:=told_is _ (htold 3 (by decide)) rfl
 have t4:vs4 4=aggV x.C:=told_is _ (htold 4 (by decide)) rfl
 have t5:vs4 5= .int .i64 (heldP r x):=told_is _ (htold 5 (by decide)) rfl
 have t7:vs4 7=P0 c:=told_is _ (htold 7 (by decide)) rfl
 have t8:vs4 8= .pointer (some ⟨b1,1,none⟩):=told_is _ (htold 8 (by decide)) rfl
 have t9:vs4 9= .int .i64 x.n:=told_is _ (htold 9 (by decide)) rfl
 have t10:vs4 10=P0 c:=told_is _ (htold 10 (by decide)) rfl
 have t11:vs4 11=aggV x.C:=told_is _ (htold 11 (by decide)) rfl
 have t12:vs4 12= .int .i64 (heldP r x):=told_is _ (htold 12 (by decide)) rfl
 rw [show (List.range 16).map vs4= [vs4 0,vs4 1,vs4 2,vs4 3,vs4 4,vs4 5,vs4 6,vs4 7,vs4 8,vs4 9,vs4 10,vs4 11,vs4 12,vs4 13,vs4 14,vs4 15] from rfl]
 simp only [t0,t1,t2,t3,t4,t5,t7,t8,t9,t10,t11,t12,putAll,Act.put,List.setIfInBounds_toArray,List.set_cons_succ,List.set_cons_zero]
 clear t0 t1 t2 t3 t4 t5 t7 t8 t9 t10 t11 t12 htold
 obtain⟨_,ln2,lr2,D2⟩:=hJ.s.n3 (hl 13 (by decide))
 have o1:=hJ.s.o1 (hl 6 (by decide))
 have o2:=hJ.s.o2 (hl 13 (by decide))
 rw [← (hJ.s.a1 (hl 14 (by decide))).2] at o1
 rw [← (hJ.s.a2 (hl 15 (by decide))).2] at o2
 generalize vs4 14=u at o1⊢
 generalize vs4 15=v at o2⊢
 have HO1:=hide o1
 have HO2:=hide o2
 have HD2:=hide D2
 clear o1 o2 D2 hJ hl M
 go_wp2_with fail
 go_ret2
 exact⟨u,v,ln2,lr2,rfl,unhide HO1,unhide HO2,unhide HD2⟩
set_option maxHeartbeats 4000000 in
theorem does_6n (base:Bw) (w:World) (b c:Nat) (x:Sp) (s:Lo) (L:List Wi) (r:Rk) (R:List Wi) (ln lr:Value) (hD:Du base w b c s L r R ln lr) (hs:∀W ln,Blk W b 75 (s.C ln)→Ws W ln L→Sd W b ln s L) (hr:∀W lr,Blk W c 47 (r.C lr)→Ws W lr R→Rs W c lr r R) (hk:x.k=6) (ho:x.o= -1):Calls Try.prog 12 #[P0 b,P0 c,aggV x.C] w (DC base w b c (wroteP s L x.n (heldP r x) x.p) (rwroteP r R x.n (heldP r x) x.p)):=by
 have M:Hid (Mm [] w w []):=hide Mm.init
 have HD:=hide hD
 have HS:=hide hs
 have HR:=hide hr
 have HK:=hide hk
 have HC:Hid (c<w.heap.size):=hD.rb.lt
 have HL:Hid (∀k,lr.ownBlock=some k→k<w.heap.size):=fun k hk=>hD.rr.lt hk
 have HO:=hide ho
 clear ho
 clear hD hs hr hk
 go_enter Try.func12,Try.ntmps12
 go_wp2_with (first |(refine wpBoxV rfl (.tmp 2) rfl (x.C) rfl ?_;intro W1 b1 e1 B1 K1;replace M:=hide ((unhide M).new e1 B1 K1);clear e1 B1 K1;have c0:W1.cell? ⟨b1,0,none⟩=some (.int .i64 6):=(fits_cell ((unhide M).at 0 _ rfl) 0 _ rfl).trans (by rw [show x.k=6 from unhide HK]);have c3:W1.cell? ⟨b1,3,none⟩=some (.int .i64 (-1)):=(fits_cell ((unhide M).at 0 _ rfl) 3 _ rfl).trans (by rw [show x.o= -1 from unhide HO]);have c9:W1.cell? ⟨c,39,none⟩=some (.int .i64 r.op):=fits_cell ((unhide HD).step (unhide M).kept).rb 39 _ rfl;refine Stp.go ?_))
 constructor
 go_wp2_with fail
 refine wp_region_any mixed (wpAny_gx 20 rfl (by kernel_rfl) [some (P0 b),some (.pointer (some ⟨b1,1,none⟩)),some (.int .i64 x.n),some (P0 c),some (aggV x.C),some (.int .i64 (heldP r x)),some (.pointer (some ⟨b1,4,none⟩)),some (.int .i64 x.p),none,some (P0 c),some (.pointer (some ⟨b1,1,none⟩)),some (.int .i64 x.n),some (P0 c),some (aggV x.C),some (.int .i64 (heldP r x)),some (.pointer (some ⟨b1,4,none⟩)),some (.int .i64 x.p),none,none,none] rfl (by kernel_rfl) (fun l vs W=>(S5 base w b c b1 x s L r R ln lr (wroteP s L x.n (heldP r x) x.p) (rwroteP r R x.n (heldP r x) x.p) 8 17 18 19 14) (fun i=>l.getD i false) vs W) (⟨⟨((unhide M).at 0 _ rfl).drew,(unhide M).kept.drew.size,(fun _=>⟨rfl,(unhide HD).step (unhide M).kept.drew⟩),(fun h=>by cases h),(fun h=>by cases h),(fun h=>by cases h),(fun h=>by cases h),(fun h=>by cases h),(fun h=>by cases h)⟩,(fun h=>by cases h)⟩) ?_ ?_)
 · intro ix o' hi ho a' w2 l vs hls hlf hJ hout hin hdep hnot
   match ix,ho with
   | 0,ho=>
     obtain rfl:=Oj9 ho
     have e0:=hout 0 (by kernel_rfl)
     replace e0:a'.eval (.tmp 0)=_:=e0.trans rfl
     exact wp_move (.tmp 0) rfl _ e0 ⟨_,rfl,told_of rfl,keepG [8,17,18,19,14] S5.loc (by omega) (by decide) hJ⟩
   | 1,ho=>
     obtain rfl:=Oj9 ho
     have e0:=hout 5 (by kernel_rfl)
     replace e0:a'.eval (.tmp 5)=_:=e0.trans rfl
     exact o_fld33_1 (.tmp 5) rfl b1 (0) (1) rfl e0 ⟨_,rfl,told_of rfl,keepG [8,17,18,19,14] S5.loc (by omega) (by decide) hJ⟩
   | 2,ho=>
     obtain rfl:=Oj9 ho
     have e0:a'.eval (.tmp 87)= .pointer (some ⟨b1,1,none⟩):=by have h9:=hin 1 87 (by kernel_rfl) (by kernel_rfl);exact h9.1.trans (told_is _ h9.2 rfl)
     exact o_load3 (.tmp 87) rfl _ _ e0 (fits_cell hJ.s.x5 1 _ rfl) ⟨_,rfl,told_of rfl,keepG [8,17,18,19,14] S5.loc (by omega) (by decide) hJ⟩
   | 3,ho=>
     obtain rfl:=Oj9 ho
     have e0:=hout 1 (by kernel_rfl)
     replace e0:a'.eval (.tmp 1)=_:=e0.trans rfl
     exact wp_move (.tmp 1) rfl _ e0 ⟨_,rfl,told_of rfl,keepG [8,17,18,19,14] S5.loc (by omega) (by decide) hJ⟩
   | 4,ho=>
     obtain rfl:=Oj9 ho
     have e0:=hout 5 (by kernel_rfl)
     replace e0:a'.eval (.tmp 5)=_:=e0.trans rfl
     exact wp_loadA row33 (.tmp 5) rfl b1 (0) e0 (x.C) rfl (hJ.s.x5.range) ⟨_,rfl,told_of rfl,keepG [8,17,18,19,14] S5.loc (by omega) (by decide) hJ⟩
   | 5,ho=>
     obtain rfl:=Oj9 ho
     have e0:a'.eval (.tmp 89)=P0 c:=by have h9:=hin 3 89 (by kernel_rfl) (by kernel_rfl);exact h9.1.trans (told_is _ h9.2 rfl)
     have e1:a'.eval (.tmp 90)=aggV x.C:=by have h9:=hin 4 90 (by kernel_rfl) (by kernel_rfl);exact h9.1.trans (told_is _ h9.2 rfl)
     refine wp_callF 36 _ _ rfl #[P0 c,aggV x.C] (by simp [e0,e1]) (ce36 _ _) ((held36 r _ c x _ (hJ.s.n1 (hnot 8 (by kernel_rfl))).2.rb).mono ?_)
     rintro e w3 ⟨rfl,hk3⟩
     exact⟨_,rfl,_,rfl,told_of rfl,nextG (by omega) (S5.of hJ (S2.next hJ.s hk3 5 _ (by decide)) (fun h=>absurd h (by decide)))⟩
   | 6,ho=>
     obtain rfl:=Oj9 ho
     have e0:=hout 5 (by kernel_rfl)
     replace e0:a'.eval (.tmp 5)=_:=e0.trans rfl
     exact o_fld33_4 (.tmp 5) rfl b1 (0) (4) rfl e0 ⟨_,rfl,told_of rfl,keepG [8,17,18,19,14] S5.loc (by omega) (by decide) hJ⟩
   | 7,ho=>
     obtain rfl:=Oj9 ho
     have e0:a'.eval (.tmp 92)= .pointer (some ⟨b1,4,none⟩):=by have h9:=hin 6 92 (by kernel_rfl) (by kernel_rfl);exact h9.1.trans (told_is _ h9.2 rfl)
     exact o_load2 (.tmp 92) rfl _ _ e0 (fits_cell hJ.s.x5 4 _ rfl) ⟨_,rfl,told_of rfl,keepG [8,17,18,19,14] S5.loc (by omega) (by decide) hJ⟩
   | 8,ho=>
     obtain rfl:=Oj9 ho
     have e0:a'.eval (.tmp 86)=P0 b:=by have h9:=hin 0 86 (by kernel_rfl) (by kernel_rfl);exact h9.1.trans (told_is _ h9.2 rfl)
     have e1:a'.eval (.tmp 88)= .int .i64 x.n:=by have h9:=hin 2 88 (by kernel_rfl) (by kernel_rfl);exact h9.1.trans (told_is _ h9.2 rfl)
     have e2:a'.eval (.tmp 91)= .int .i64 (heldP r x):=by have h9:=hin 5 91 (by kernel_rfl) (by kernel_rfl);exact h9.1.trans (told_is _ h9.2 rfl)
     have e3:a'.eval (.tmp 93)= .int .i64 x.p:=by have h9:=hin 7 93 (by kernel_rfl) (by kernel_rfl);exact h9.1.trans (told_is _ h9.2 rfl)
     refine wp_callF 31 _ _ rfl #[P0 b,.int .i64 x.n,.int .i64 (heldP r x),.int .i64 x.p] (by simp [e0,e1,e2,e3]) (ce31 _ _) ((wrote31 s _ b L x.n (heldP r x) x.p _ (unhide HS _ _ (hJ.s.n1 hlf).2.sb (hJ.s.n1 hlf).2.sw)).mono ?_)
     intro e w3 hq
     obtain⟨v3,ln3,rfl,hO,hD3,hK⟩:=(hJ.s.n1 hlf).2.prog hq
     exact⟨_,rfl,_,rfl,told_no rfl,nextG (by omega) (S5.of hJ (S2.call1 hJ.s (by decide) hlf (hnot 18 (by kernel_rfl)) (hnot 19 (by kernel_rfl)) hO hD3 hK) (fun h=>absurd h (by decide)))⟩
   | 9,ho=>
     obtain rfl:=Oj9 ho
     have e0:=hout 1 (by kernel_rfl)
     replace e0:a'.eval (.tmp 1)=_:=e0.trans rfl
     exact wp_move (.tmp 1) rfl _ e0 ⟨_,rfl,told_of rfl,keepG [8,17,18,19,14] S5.loc (by omega) (by decide) hJ⟩
   | 10,ho=>
     obtain rfl:=Oj9 ho
     have e0:=hout 5 (by kernel_rfl)
     replace e0:a'.eval (.tmp 5)=_:=e0.trans rfl
     exact o_fld33_1 (.tmp 5) rfl b1 (0) (1) rfl e0 ⟨_,rfl,told_of rfl,keepG [8,17,18,19,14] S5.loc (by omega) (by decide) hJ⟩
   | 11,ho=>
     obtain rfl:=Oj9 ho
     have e0:a'.eval (.tmp 96)= .pointer (some ⟨b1,1,none⟩):=by have h9:=hin 10 96 (by kernel_rfl) (by kernel_rfl);exact h9.1.trans (told_is _ h9.2 rfl)
     exact o_load3 (.tmp 96) rfl _ _ e0 (fits_cell hJ.s.x5 1 _ rfl) ⟨_,rfl,told_of rfl,keepG [8,17,18,19,14] S5.loc (by omega) (by decide) hJ⟩
   | 12,ho=>
     obtain rfl:=Oj9 ho
     have e0:=hout 1 (by kernel_rfl)
     replace e0:a'.eval (.tmp 1)=_:=e0.trans rfl
     exact wp_move (.tmp 1) rfl _ e0 ⟨_,rfl,told_of rfl,keepG [8,17,18,19,14] S5.loc (by omega) (by decide) hJ⟩
   | 13,ho=>
     obtain rfl:=Oj9 ho
     have e0:=hout 5 (by kernel_rfl)
     replace e0:a'.eval (.tmp 5)=_:=e0.trans rfl
     exact wp_loadA row33 (.tmp 5) rfl b1 (0) e0 (x.C) rfl (hJ.s.x5.range) ⟨_,rfl,told_of rfl,keepG [8,17,18,19,14] S5.loc (by omega) (by decide) hJ⟩
   | 14,ho=>
     obtain rfl:=Oj9 ho
     have e0:a'.eval (.tmp 98)=P0 c:=by have h9:=hin 12 98 (by kernel_rfl) (by kernel_rfl);exact h9.1.trans (told_is _ h9.2 rfl)
     have e1:a'.eval (.tmp 99)=aggV x.C:=by have h9:=hin 13 99 (by kernel_rfl) (by kernel_rfl);exact h9.1.trans (told_is _ h9.2 rfl)
     obtain⟨ln2,D2⟩:=hJ.s.n2 (hdep 8 (by kernel_rfl)) (hnot 17 (by kernel_rfl))
     refine wp_callF 36 _ _ rfl #[P0 c,aggV x.C] (by simp [e0,e1]) (ce36 _ _) ((held36 r _ c x _ D2.rb).mono ?_)
     rintro e w3 ⟨rfl,hk3⟩
     exact⟨_,rfl,_,rfl,told_of rfl,nextG (by omega) (S5.of hJ (S2.next hJ.s hk3 14 _ (by decide)) (fun _=>hdep 8 (by kernel_rfl)))⟩
   | 15,ho=>
     obtain rfl:=Oj9 ho
     have e0:=hout 5 (by kernel_rfl)
     replace e0:a'.eval (.tmp 5)=_:=e0.trans rfl
     exact o_fld33_4 (.tmp 5) rfl b1 (0) (4) rfl e0 ⟨_,rfl,told_of rfl,keepG [8,17,18,19,14] S5.loc (by omega) (by decide) hJ⟩
   | 16,ho=>
     obtain rfl:=Oj9 ho
     have e0:a'.eval (.tmp 101)= .pointer (some ⟨b1,4,none⟩):=by have h9:=hin 15 101 (by kernel_rfl) (by kernel_rfl);exact h9.1.trans (told_is _ h9.2 rfl)
     exact o_load2 (.tmp 101) rfl _ _ e0 (fits_cell hJ.s.x5 4 _ rfl) ⟨_,rfl,told_of rfl,keepG [8,17,18,19,14] S5.loc (by omega) (by decide) hJ⟩
   | 17,ho=>
     obtain rfl:=Oj9 ho
     have e0:a'.eval (.tmp 95)=P0 c:=by have h9:=hin 9 95 (by kernel_rfl) (by kernel_rfl);exact h9.1.trans (told_is _ h9.2 rfl)
     have e1:a'.eval (.tmp 97)= .int .i64 x.n:=by have h9:=hin 11 97 (by kernel_rfl) (by kernel_rfl);exact h9.1.trans (told_is _ h9.2 rfl)
     have e2:a'.eval (.tmp 100)= .int .i64 (heldP r x):=by have h9:=hin 14 100 (by kernel_rfl) (by kernel_rfl);exact h9.1.trans (told_is _ h9.2 rfl)
     have e3:a'.eval (.tmp 102)= .int .i64 x.p:=by have h9:=hin 16 102 (by kernel_rfl) (by kernel_rfl);exact h9.1.trans (told_is _ h9.2 rfl)
     obtain⟨ln2,D2⟩:=hJ.s.n2 (hJ.hh (hdep 14 (by kernel_rfl))) hlf
     refine wp_callF 38 _ _ rfl #[P0 c,.int .i64 x.n,.int .i64 (heldP r x),.int .i64 x.p] (by simp [e0,e1,e2,e3]) (ce38 _ _) ((rwrote38 r _ c R x.n (heldP r x) x.p _ (unhide HR _ _ D2.rb D2.rr)).mono ?_)
     intro e w3 hq
     obtain⟨v3,lr3,rfl,hO,hD3,hK⟩:=D2.doc hq
     exact⟨_,rfl,_,rfl,told_no rfl,nextG (by omega) (S5.of hJ (S2.call2 hJ.s (by decide) (hJ.hh (hdep 14 (by kernel_rfl))) (hnot 19 (by kernel_rfl)) (unhide HC) (unhide HL) D2 hO hD3 hK) (fun h=>absurd h (by decide)))⟩
   | 18,ho=>
     obtain rfl:=Oj9 ho
     have e0:a'.eval (.tmp 94)=vs 8:=(hin 8 94 (by kernel_rfl) (by kernel_rfl)).1
     exact wp_assignV (.tmp 94) rfl _ e0 ⟨_,rfl,told_no rfl,nextG (by omega) (S5.of hJ (S2.as1 hJ.s (by decide) (hdep 8 (by kernel_rfl))) (fun h=>absurd h (by decide)))⟩
   | 19,ho=>
     obtain rfl:=Oj9 ho
     have e0:a'.eval (.tmp 103)=vs 17:=(hin 17 103 (by kernel_rfl) (by kernel_rfl)).1
     exact wp_assignV (.tmp 103) rfl _ e0 ⟨_,rfl,told_no rfl,nextG (by omega) (S5.of hJ (S2.as2 hJ.s (by decide) (hdep 17 (by kernel_rfl))) (fun h=>absurd h (by decide)))⟩
 intro l_ vs4 V4 hl hJ htold
 have t0:vs4 0=P0 b:=told_is _ (htold 0 (by decide)) rfl
 have t1:vs4 1= .pointer (some ⟨b1,1,none⟩):=told_is _ (htold 1 (by decide)) rfl
 have t2:vs4 2= .int .i64 x.n:=told_is _ (htold 2 (by decide)) rfl
 have t3:vs4 3=P0 c:=told_is _ (htold 3 (by decide)) rfl
 have t4:vs4 4=aggV x.C:=told_is _ (htold 4 (by decide)) rfl
 have t5:vs4 5= .int .i64 (heldP r x):=told_is _ (htold 5 (by decide)) rfl
 have t6:vs4 6= .pointer (some ⟨b1,4,none⟩):=told_is _ (htold 6 (by decide)) rfl
 have t7:vs4 7= .int .i64 x.p:=told_is _ (htold 7 (by decide)) rfl
 have t9:vs4 9=P0 c:=told_is _ (htold 9 (by decide)) rfl
 have t10:vs4 10= .pointer (some ⟨b1,1,none⟩):=told_is _ (htold 10 (by decide)) rfl
 have t11:vs4 11= .int .i64 x.n:=told_is _ (htold 11 (by decide)) rfl
 have t12:vs4 12=P0 c:=told_is _ (htold 12 (by decide)) rfl
 have t13:vs4 13=aggV x.C:=told_is _ (htold 13 (by decide)) rfl
 have t14:vs4 14= .int .i64 (heldP r x):=told_is _ (htold 14 (by decide)) rfl
 have t15:vs4 15= .pointer (some ⟨b1,4,none⟩):=told_is _ (htold 15 (by decide)) rfl
 have t16:vs4 16= .int .i64 x.p:=told_is _ (htold 16 (by decide)) rfl
 rw [show (List.range 20).map vs4= [vs4 0,vs4 1,vs4 2,vs4 3,vs4 4,vs4 5,vs4 6,vs4 7,vs4 8,vs4 9,vs4 10,vs4 11,vs4 12,vs4 13,vs4 14,vs4 15,vs4 16,vs4 17,vs4 18,vs4 19] from rfl]
 simp only [t0,t1,t2,t3,t4,t5,t6,t7,t9,t10,t11,t12,t13,t14,t15,t16,putAll,Act.put,List.setIfInBounds_toArray,List.set_cons_succ,List.set_cons_zero]
 clear t0 t1 t2 t3 t4 t5 t6 t7 t9 t10 t11 t12 t13 t14 t15 t16 htold
 obtain⟨_,ln2,lr2,D2⟩:=hJ.s.n3 (hl 17 (by decide))
 have o1:=hJ.s.o1 (hl 8 (by decide))
 have o2:=hJ.s.o2 (hl 17 (by decide))
 rw [← (hJ.s.a1 (hl 18 (by decide))).2] at o1
 rw [← (hJ.s.a2 (hl 19 (by decide))).2] at o2
 generalize vs4 18=u at o1⊢
 generalize vs4 19=v at o2⊢
 have HO1:=hide o1
 have HO2:=hide o2
 have HD2:=hide D2
 clear o1 o2 D2 hJ hl M
 go_wp2_with fail
 go_ret2
 exact⟨u,v,ln2,lr2,rfl,unhide HO1,unhide HO2,unhide HD2⟩
end Go.Proofs.Ytabicgbnloabnaa
