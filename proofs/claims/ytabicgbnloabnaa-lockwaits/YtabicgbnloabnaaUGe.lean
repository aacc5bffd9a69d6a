import Derived.Test.YtabicgbnloabnaaUGd
namespace Go.Proofs.Ytabicgbnloabnaa
set_option maxRecDepth 100000
set_option linter.unusedSimpArgs false
open Go.RowKit
theorem cd21 (vs:Array Value) (w:World):(callFunc 21 vs).run Try.prog w= .ok (.enter 21 vs) w:=by kernel_rfl
theorem cd33 (vs:Array Value) (w:World):(callFunc 33 vs).run Try.prog w= .ok (.enter 33 vs) w:=by kernel_rfl
section
variable {o:Oper} {a:Act} {w:World} {K:Act→World→Prop} {Q:Exit→Act→World→Prop}
theorem o_bw3 (y:Operand) (ho:o.op= .build 41 #[(0,y),(1,.const (.int .i64 3))]) (n:Int) (hy:a.eval y= .int .i64 n) (h:K (a.put o.dst (aggV [.int .i64 n,.int .i64 3])) w):o.wp Try.prog a w K Q:=by
 have e:(#[(0,y),(1,Operand.const (.int .i64 3))]:Array (Nat×Operand)).map (fun p=>(p.1,a.eval p.2))= #[(0,.int .i64 n),(1,.int .i64 3)]:=by simp [hy];rfl
 unfold Oper.wp execOp
 simp only [ho]
 simp only [e,Sem.run_bind,bw,Result.andThen_ok]
 exact h
end
theorem S2.next {base:Bw} {w W W':World} {b c b5:Nat} {x:Sp} {s:Lo} {L R:List Wi} {r:Rk} {ln lr:Value} {p:Lo×List Wi×List Od} {q:Rk×List Wi×List Od} {k1 k2 k3 k4:Nat} {d:Nat→Bool} {vs:Nat→Value} (h:S2 base w b c b5 x s L r R ln lr p q k1 k2 k3 k4 d vs W) (hk:Kept [] W W') (j:Nat) (v:Value) (hj:j∉ [k1,k2,k3,k4]):S2 base w b c b5 x s L r R ln lr p q k1 k2 k3 k4 (fun i=>if i=j then true else d i) (fun i=>if i=j then v else vs i) W':=by
 have h1:S2 base w b c b5 x s L r R ln lr p q k1 k2 k3 k4 d vs W':=⟨h.x5.kept hk (by simp),Nat.le_trans h.sz hk.size,fun e=>⟨(h.n1 e).1,(h.n1 e).2.step hk⟩,fun e f=>by obtain⟨l,D⟩:=h.n2 e f;exact⟨l,D.step hk⟩,fun e=>by obtain⟨f,l,m,D⟩:=h.n3 e;exact⟨f,l,m,D.step hk⟩,fun e=>New.kept (h.o1 e) hk (by simp),fun e=>New.kept (h.o2 e) hk (by simp),h.a1,h.a2⟩
 refine S2.loc _ _ _ _ _ (fun i hi=> ?_) h1
 have hne:¬i=j:=fun e=>hj (e▸hi)
 simp [hne]
set_option maxHeartbeats 4000000 in
theorem does_2 (base:Bw) (w:World) (b c:Nat) (x:Sp) (s:Lo) (L:List Wi) (r:Rk) (R:List Wi) (ln lr:Value) (hD:Du base w b c s L r R ln lr) (hs:∀W ln,Blk W b 75 (s.C ln)→Ws W ln L→Sd W b ln s L) (hr:∀W lr,Blk W c 47 (r.C lr)→Ws W lr R→Rs W c lr r R) (hk:x.k=2) (ho:¬x.o= -1):Calls Try.prog 12 #[P0 b,P0 c,aggV x.C] w (DC base w b c (askI s L x.n 3) (rwishI r R x.n 3)):=by
 have M:Hid (Mm [] w w []):=hide Mm.init
 have HD:=hide hD
 have HS:=hide hs
 have HR:=hide hr
 have HK:=hide hk
 have HC:Hid (c<w.heap.size):=hD.rb.lt
 have HL:Hid (∀k,lr.ownBlock=some k→k<w.heap.size):=fun k hk=>hD.rr.lt hk
 have hoa:decide (x.o= -1)=false:=nef_a ho
 have hob:(x.o == -1)=false:=nef_b ho
 have hoc:(x.o != -1)=true:=nef_c ho
 clear hD hs hr hk
 go_enter Try.func12,Try.ntmps12
 go_wp2_with (first |(refine wpBoxV rfl (.tmp 2) rfl (x.C) rfl ?_;intro W1 b1 e1 B1 K1;replace M:=hide ((unhide M).new e1 B1 K1);clear e1 B1 K1;have c0:W1.cell? ⟨b1,0,none⟩=some (.int .i64 2):=(fits_cell ((unhide M).at 0 _ rfl) 0 _ rfl).trans (by rw [show x.k=2 from unhide HK]);have c3:W1.cell? ⟨b1,3,none⟩=some (.int .i64 x.o):=fits_cell ((unhide M).at 0 _ rfl) 3 _ rfl;refine Stp.go ?_))
 constructor
 go_wp2_with fail
 refine wp_region_any mixed (wpAny_gx 11 rfl (by kernel_rfl) [some (P0 b),some (.pointer (some ⟨b1,1,none⟩)),some (.int .i64 x.n),none,some (P0 c),some (.pointer (some ⟨b1,1,none⟩)),some (.int .i64 x.n),some (aggV ([.int .i64 x.n,.int .i64 3])),none,none,none] rfl (by kernel_rfl) (fun l vs W=>(S2 base w b c b1 x s L r R ln lr (askI s L x.n 3) (rwishI r R x.n 3) 3 8 9 10) (fun i=>l.getD i false) vs W) (⟨((unhide M).at 0 _ rfl).drew,(unhide M).kept.drew.size,(fun _=>⟨rfl,(unhide HD).step (unhide M).kept.drew⟩),(fun h=>by cases h),(fun h=>by cases h),(fun h=>by cases h),(fun h=>by cases h),(fun h=>by cases h),(fun h=>by cases h)⟩) ?_ ?_)
 · intro ix o' hi ho a' w2 l vs hls hlf hJ hout hin hdep hnot
   match ix,ho with
   | 0,ho=>
     obtain rfl:=Oj9 ho
     have e0:=hout 0 (by kernel_rfl)
     replace e0:a'.eval (.tmp 0)=_:=e0.trans rfl
     exact wp_move (.tmp 0) rfl _ e0 ⟨_,rfl,told_of rfl,keepG [3,8,9,10] S2.loc (by omega) (by decide) hJ⟩
   | 1,ho=>
     obtain rfl:=Oj9 ho
     have e0:=hout 5 (by kernel_rfl)
     replace e0:a'.eval (.tmp 5)=_:=e0.trans rfl
     exact o_fld33_1 (.tmp 5) rfl b1 (0) (1) rfl e0 ⟨_,rfl,told_of rfl,keepG [3,8,9,10] S2.loc (by omega) (by decide) hJ⟩
   | 2,ho=>
     obtain rfl:=Oj9 ho
     have e0:a'.eval (.tmp 36)= .pointer (some ⟨b1,1,none⟩):=by have h9:=hin 1 36 (by kernel_rfl) (by kernel_rfl);exact h9.1.trans (told_is _ h9.2 rfl)
     exact o_load3 (.tmp 36) rfl _ _ e0 (fits_cell hJ.x5 1 _ rfl) ⟨_,rfl,told_of rfl,keepG [3,8,9,10] S2.loc (by omega) (by decide) hJ⟩
   | 3,ho=>
     obtain rfl:=Oj9 ho
     have e0:a'.eval (.tmp 35)=P0 b:=by have h9:=hin 0 35 (by kernel_rfl) (by kernel_rfl);exact h9.1.trans (told_is _ h9.2 rfl)
     have e1:a'.eval (.tmp 37)= .int .i64 x.n:=by have h9:=hin 2 37 (by kernel_rfl) (by kernel_rfl);exact h9.1.trans (told_is _ h9.2 rfl)
     refine wp_callF 21 _ _ rfl #[P0 b,.int .i64 x.n] (by simp [e0,e1]) (cd21 _ _) ((clean21 s _ b L x.n _ (unhide HS _ _ (hJ.n1 hlf).2.sb (hJ.n1 hlf).2.sw)).mono ?_)
     intro e w3 hq
     obtain⟨v3,ln3,rfl,hO,hD3,hK⟩:=(hJ.n1 hlf).2.prog hq
     exact⟨_,rfl,_,rfl,told_no rfl,nextG (by omega) (S2.call1 hJ (by decide) hlf (hnot 9 (by kernel_rfl)) (hnot 10 (by kernel_rfl)) hO hD3 hK)⟩
   | 4,ho=>
     obtain rfl:=Oj9 ho
     have e0:=hout 1 (by kernel_rfl)
     replace e0:a'.eval (.tmp 1)=_:=e0.trans rfl
     exact wp_move (.tmp 1) rfl _ e0 ⟨_,rfl,told_of rfl,keepG [3,8,9,10] S2.loc (by omega) (by decide) hJ⟩
   | 5,ho=>
     obtain rfl:=Oj9 ho
     have e0:=hout 5 (by kernel_rfl)
     replace e0:a'.eval (.tmp 5)=_:=e0.trans rfl
     exact o_fld33_1 (.tmp 5) rfl b1 (0) (1) rfl e0 ⟨_,rfl,told_of rfl,keepG [3,8,9,10] S2.loc (by omega) (by decide) hJ⟩
   | 6,ho=>
     obtain rfl:=Oj9 ho
     have e0:a'.eval (.tmp 40)= .pointer (some ⟨b1,1,none⟩):=by have h9:=hin 5 40 (by kernel_rfl) (by kernel_rfl);exact h9.1.trans (told_is _ h9.2 rfl)
     exact o_load3 (.tmp 40) rfl _ _ e0 (fits_cell hJ.x5 1 _ rfl) ⟨_,rfl,told_of rfl,keepG [3,8,9,10] S2.loc (by omega) (by decide) hJ⟩
   | 7,ho=>
     obtain rfl:=Oj9 ho
     have e0:a'.eval (.tmp 41)= .int .i64 x.n:=by have h9:=hin 6 41 (by kernel_rfl) (by kernel_rfl);exact h9.1.trans (told_is _ h9.2 rfl)
     exact o_bw3 (.tmp 41) rfl x.n e0 ⟨_,rfl,told_of rfl,keepG [3,8,9,10] S2.loc (by omega) (by decide) hJ⟩
   | 8,ho=>
     obtain rfl:=Oj9 ho
     have e0:a'.eval (.tmp 39)=P0 c:=by have h9:=hin 4 39 (by kernel_rfl) (by kernel_rfl);exact h9.1.trans (told_is _ h9.2 rfl)
     have e1:a'.eval (.tmp 42)=aggV ([.int .i64 x.n,.int .i64 3]):=by have h9:=hin 7 42 (by kernel_rfl) (by kernel_rfl);exact h9.1.trans (told_is _ h9.2 rfl)
     obtain⟨ln2,D2⟩:=hJ.n2 (hdep 3 (by kernel_rfl)) hlf
     refine wp_callF 33 _ _ rfl #[P0 c,aggV [.int .i64 x.n,.int .i64 3]] (by simp [e0,e1]) (cd33 _ _) ((rwish33 r _ c R x.n 3 _ (unhide HR _ _ D2.rb D2.rr) (by decide)).mono ?_)
     intro e w3 hq
     obtain⟨v3,lr3,rfl,hO,hD3,hK⟩:=D2.doc hq
     exact⟨_,rfl,_,rfl,told_no rfl,nextG (by omega) (S2.call2 hJ (by decide) (hdep 3 (by kernel_rfl)) (hnot 10 (by kernel_rfl)) (unhide HC) (unhide HL) D2 hO hD3 hK)⟩
   | 9,ho=>
     obtain rfl:=Oj9 ho
     have e0:a'.eval (.tmp 38)=vs 3:=(hin 3 38 (by kernel_rfl) (by kernel_rfl)).1
     exact wp_assignV (.tmp 38) rfl _ e0 ⟨_,rfl,told_no rfl,nextG (by omega) (S2.as1 hJ (by decide) (hdep 3 (by kernel_rfl)))⟩
   | 10,ho=>
     obtain rfl:=Oj9 ho
     have e0:a'.eval (.tmp 43)=vs 8:=(hin 8 43 (by kernel_rfl) (by kernel_rfl)).1
     exact wp_assignV (.tmp 43) rfl _ e0 ⟨_,rfl,told_no rfl,nextG (by omega) (S2.as2 hJ (by decide) (hdep 8 (by kernel_rfl)))⟩
 intro l_ vs4 V4 hl hJ htold
 have t0:vs4 0=P0 b:=told_is _ (htold 0 (by decide)) rfl
 have t1:vs4 1= .pointer (some ⟨b1,1,none⟩):=told_is _ (htold 1 (by decide)) rfl
 have t2:vs4 2= .int .i64 x.n:=told_is _ (htold 2 (by decide)) rfl
 have t4:vs4 4=P0 c:=told_is _ (htold 4 (by decide)) rfl
 have t5:vs4 5= .pointer (some ⟨b1,1,none⟩):=told_is _ (htold 5 (by decide)) rfl
 have t6:vs4 6= .int .i64 x.n:=told_is _ (htold 6 (by decide)) rfl
 have t7:vs4 7=aggV ([.int .i64 x.n,.int .i64 3]):=told_is _ (htold 7 (by decide)) rfl
 rw [show (List.range 11).map vs4= [vs4 0,vs4 1,vs4 2,vs4 3,vs4 4,vs4 5,vs4 6,vs4 7,vs4 8,vs4 9,vs4 10] from rfl]
 simp only [t0,t1,t2,t4,t5,t6,t7,putAll,Act.put,List.setIfInBounds_toArray,List.set_cons_succ,List.set_cons_zero]
 clear t0 t1 t2 t4 t5 t6 t7 htold
 obtain⟨_,ln2,lr2,D2⟩:=hJ.n3 (hl 8 (by decide))
 have o1:=hJ.o1 (hl 3 (by decide))
 have o2:=hJ.o2 (hl 8 (by decide))
 rw [← (hJ.a1 (hl 9 (by decide))).2] at o1
 rw [← (hJ.a2 (hl 10 (by decide))).2] at o2
 generalize vs4 9=u at o1⊢
 generalize vs4 10=v at o2⊢
 have HO1:=hide o1
 have HO2:=hide o2
 have HD2:=hide D2
 clear o1 o2 D2 hJ hl M
 go_wp2_with fail
 go_ret2
 exact⟨u,v,ln2,lr2,rfl,unhide HO1,unhide HO2,unhide HD2⟩
set_option maxHeartbeats 4000000 in
theorem does_2n (base:Bw) (w:World) (b c:Nat) (x:Sp) (s:Lo) (L:List Wi) (r:Rk) (R:List Wi) (ln lr:Value) (hD:Du base w b c s L r R ln lr) (hs:∀W ln,Blk W b 75 (s.C ln)→Ws W ln L→Sd W b ln s L) (hr:∀W lr,Blk W c 47 (r.C lr)→Ws W lr R→Rs W c lr r R) (hk:x.k=2) (ho:x.o= -1):Calls Try.prog 12 #[P0 b,P0 c,aggV x.C] w (DC base w b c (askI s L x.n 3) (rwishI r R x.n 3)):=by
 have M:Hid (Mm [] w w []):=hide Mm.init
 have HD:=hide hD
 have HS:=hide hs
 have HR:=hide hr
 have HK:=hide hk
 have HC:Hid (c<w.heap.size):=hD.rb.lt
 have HL:Hid (∀k,lr.ownBlock=some k→k<w.heap.size):=fun k hk=>hD.rr.lt hk
 have HO:=hide ho
 clear ho
 clear hD hs hr hk
 go_enter Try.func12,Try.ntmps12
 go_wp2_with (first |(refine wpBoxV rfl (.tmp 2) rfl (x.C) rfl ?_;intro W1 b1 e1 B1 K1;replace M:=hide ((unhide M).new e1 B1 K1);clear e1 B1 K1;have c0:W1.cell? ⟨b1,0,none⟩=some (.int .i64 2):=(fits_cell ((unhide M).at 0 _ rfl) 0 _ rfl).trans (by rw [show x.k=2 from unhide HK]);have c3:W1.cell? ⟨b1,3,none⟩=some (.int .i64 (-1)):=(fits_cell ((unhide M).at 0 _ rfl) 3 _ rfl).trans (by rw [show x.o= -1 from unhide HO]);have c9:W1.cell? ⟨c,39,none⟩=some (.int .i64 r.op):=fits_cell ((unhide HD).step (unhide M).kept).rb 39 _ rfl;refine Stp.go ?_))
 constructor
 go_wp2_with fail
 refine wp_region_any mixed (wpAny_gx 11 rfl (by kernel_rfl) [some (P0 b),some (.pointer (some ⟨b1,1,none⟩)),some (.int .i64 x.n),none,some (P0 c),some (.pointer (some ⟨b1,1,none⟩)),some (.int .i64 x.n),some (aggV ([.int .i64 x.n,.int .i64 3])),none,none,none] rfl (by kernel_rfl) (fun l vs W=>(S2 base w b c b1 x s L r R ln lr (askI s L x.n 3) (rwishI r R x.n 3) 3 8 9 10) (fun i=>l.getD i false) vs W) (⟨((unhide M).at 0 _ rfl).drew,(unhide M).kept.drew.size,(fun _=>⟨rfl,(unhide HD).step (unhide M).kept.drew⟩),(fun h=>by cases h),(fun h=>by cases h),(fun h=>by cases h),(fun h=>by cases h),(fun h=>by cases h),(fun h=>by cases h)⟩) ?_ ?_)
 · intro ix o' hi ho a' w2 l vs hls hlf hJ hout hin hdep hnot
   match ix,ho with
   | 0,ho=>
     obtain rfl:=Oj9 ho
     have e0:=hout 0 (by kernel_rfl)
     replace e0:a'.eval (.tmp 0)=_:=e0.trans rfl
     exact wp_move (.tmp 0) rfl _ e0 ⟨_,rfl,told_of rfl,keepG [3,8,9,10] S2.loc (by omega) (by decide) hJ⟩
   | 1,ho=>
     obtain rfl:=Oj9 ho
     have e0:=hout 5 (by kernel_rfl)
     replace e0:a'.eval (.tmp 5)=_:=e0.trans rfl
     exact o_fld33_1 (.tmp 5) rfl b1 (0) (1) rfl e0 ⟨_,rfl,told_of rfl,keepG [3,8,9,10] S2.loc (by omega) (by decide) hJ⟩
   | 2,ho=>
     obtain rfl:=Oj9 ho
     have e0:a'.eval (.tmp 36)= .pointer (some ⟨b1,1,none⟩):=by have h9:=hin 1 36 (by kernel_rfl) (by kernel_rfl);exact h9.1.trans (told_is _ h9.2 rfl)
     exact o_load3 (.tmp 36) rfl _ _ e0 (fits_cell hJ.x5 1 _ rfl) ⟨_,rfl,told_of rfl,keepG [3,8,9,10] S2.loc (by omega) (by decide) hJ⟩
   | 3,ho=>
     obtain rfl:=Oj9 ho
     have e0:a'.eval (.tmp 35)=P0 b:=by have h9:=hin 0 35 (by kernel_rfl) (by kernel_rfl);exact h9.1.trans (told_is _ h9.2 rfl)
     have e1:a'.eval (.tmp 37)= .int .i64 x.n:=by have h9:=hin 2 37 (by kernel_rfl) (by kernel_rfl);exact h9.1.trans (told_is _ h9.2 rfl)
     refine wp_callF 21 _ _ rfl #[P0 b,.int .i64 x.n] (by simp [e0,e1]) (cd21 _ _) ((clean21 s _ b L x.n _ (unhide HS _ _ (hJ.n1 hlf).2.sb (hJ.n1 hlf).2.sw)).mono ?_)
     intro e w3 hq
     obtain⟨v3,ln3,rfl,hO,hD3,hK⟩:=(hJ.n1 hlf).2.prog hq
     exact⟨_,rfl,_,rfl,told_no rfl,nextG (by omega) (S2.call1 hJ (by decide) hlf (hnot 9 (by kernel_rfl)) (hnot 10 (by kernel_rfl)) hO hD3 hK)⟩
   | 4,ho=>
     obtain rfl:=Oj9 ho
     have e0:=hout 1 (by kernel_rfl)
     replace e0:a'.eval (.tmp 1)=_:=e0.trans rfl
     exact wp_move (.tmp 1) rfl _ e0 ⟨_,rfl,told_of rfl,keepG [3,8,9,10] S2.loc (by omega) (by decide) hJ⟩
   | 5,ho=>
     obtain rfl:=Oj9 ho
     have e0:=hout 5 (by kernel_rfl)
     replace e0:a'.eval (.tmp 5)=_:=e0.trans rfl
     exact o_fld33_1 (.tmp 5) rfl b1 (0) (1) rfl e0 ⟨_,rfl,told_of rfl,keepG [3,8,9,10] S2.loc (by omega) (by decide) hJ⟩
   | 6,ho=>
     obtain rfl:=Oj9 ho
     have e0:a'.eval (.tmp 40)= .pointer (some ⟨b1,1,none⟩):=by have h9:=hin 5 40 (by kernel_rfl) (by kernel_rfl);exact h9.1.trans (told_is _ h9.2 rfl)
     exact o_load3 (.tmp 40) rfl _ _ e0 (fits_cell hJ.x5 1 _ rfl) ⟨_,rfl,told_of rfl,keepG [3,8,9,10] S2.loc (by omega) (by decide) hJ⟩
   | 7,ho=>
     obtain rfl:=Oj9 ho
     have e0:a'.eval (.tmp 41)= .int .i64 x.n:=by have h9:=hin 6 41 (by kernel_rfl) (by kernel_rfl);exact h9.1.trans (told_is _ h9.2 rfl)
     exact o_bw3 (.tmp 41) rfl x.n e0 ⟨_,rfl,told_of rfl,keepG [3,8,9,10] S2.loc (by omega) (by decide) hJ⟩
   | 8,ho=>
     obtain rfl:=Oj9 ho
     have e0:a'.eval (.tmp 39)=P0 c:=by have h9:=hin 4 39 (by kernel_rfl) (by kernel_rfl);exact h9.1.trans (told_is _ h9.2 rfl)
     have e1:a'.eval (.tmp 42)=aggV ([.int .i64 x.n,.int .i64 3]):=by have h9:=hin 7 42 (by kernel_rfl) (by kernel_rfl);exact h9.1.trans (told_is _ h9.2 rfl)
     obtain⟨ln2,D2⟩:=hJ.n2 (hdep 3 (by kernel_rfl)) hlf
     refine wp_callF 33 _ _ rfl #[P0 c,aggV [.int .i64 x.n,.int .i64 3]] (by simp [e0,e1]) (cd33 _ _) ((rwish33 r _ c R x.n 3 _ (unhide HR _ _ D2.rb D2.rr) (by decide)).mono ?_)
     intro e w3 hq
     obtain⟨v3,lr3,rfl,hO,hD3,hK⟩:=D2.doc hq
     exact⟨_,rfl,_,rfl,told_no rfl,nextG (by omega) (S2.call2 hJ (by decide) (hdep 3 (by kernel_rfl)) (hnot 10 (by kernel_rfl)) (unhide HC) (unhide HL) D2 hO hD3 hK)⟩
   | 9,ho=>
     obtain rfl:=Oj9 ho
     have e0:a'.eval (.tmp 38)=vs 3:=(hin 3 38 (by kernel_rfl) (by kernel_rfl)).1
     exact wp_assignV (.tmp 38) rfl _ e0 ⟨_,rfl,told_no rfl,nextG (by omega) (S2.as1 hJ (by decide) (hdep 3 (by kernel_rfl)))⟩
   | 10,ho=>
     obtain rfl:=Oj9 ho
     have e0:a'.eval (.tmp 43)=vs 8:=(hin 8 43 (by kernel_rfl) (by kernel_rfl)).1
     exact wp_assignV (.tmp 43) rfl _ e0 ⟨_,rfl,told_no rfl,nextG (by omega) (S2.as2 hJ (by decide) (hdep 8 (by kernel_rfl)))⟩
 intro l_ vs4 V4 hl hJ htold
 have t0:vs4 0=P0 b:=told_is _ (htold 0 (by decide)) rfl
 have t1:vs4 1= .pointer (some ⟨b1,1,none⟩):=told_is _ (htold 1 (by decide)) rfl
 have t2:vs4 2= .int .i64 x.n:=told_is _ (htold 2 (by decide)) rfl
 have t4:vs4 4=P0 c:=told_is _ (htold 4 (by decide)) rfl
 have t5:vs4 5= .pointer (some ⟨b1,1,none⟩):=told_is _ (htold 5 (by decide)) rfl
 have t6:vs4 6= .int .i64 x.n:=told_is _ (htold 6 (by decide)) rfl
 have t7:vs4 7=aggV ([.int .i64 x.n,.int .i64 3]):=told_is _ (htold 7 (by decide)) rfl
 rw [show (List.range 11).map vs4= [vs4 0,vs4 1,vs4 2,vs4 3,vs4 4,vs4 5,vs4 6,vs4 7,vs4 8,vs4 9,vs4 10] from rfl]
 simp only [t0,t1,t2,t4,t5,t6,t7,putAll,Act.put,List.setIfInBounds_toArray,List.set_cons_succ,List.set_cons_zero]
 clear t0 t1 t2 t4 t5 t6 t7 htold
 obtain⟨_,ln2,lr2,D2⟩:=hJ.n3 (hl 8 (by decide))
 have o1:=hJ.o1 (hl 3 (by decide))
 have o2:=hJ.o2 (hl 8 (by decide))
 rw [← (hJ.a1 (hl 9 (by decide))).2] at o1
 rw [← (hJ.a2 (hl 10 (by decide))).2] at o2
 generalize vs4 9=u at o1⊢
 generalize vs4 10=v at o2⊢
 have HO1:=hide o1
 have HO2:=hide o2
 have HD2:=hide D2
 clear o1 o2 D2 hJ hl M
 go_wp2_with fail
 go_ret2
 exact⟨u,v,ln2,lr2,rfl,unhide HO1,unhide HO2,unhide HD2⟩
end Go.Proofs.Ytabicgbnloabnaa
