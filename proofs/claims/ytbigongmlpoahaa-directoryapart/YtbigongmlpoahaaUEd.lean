import Derived.Test.YtbigongmlpoahaaUEc
namespace Go.Proofs.Ytbigongmlpoahaa.D
set_option maxHeartbeats 16000000
set_option maxRecDepth 100000
set_option linter.unusedSimpArgs false
open Go.RowKit Go.Shelf
variable {A:Nat} {w:World} {wb b mb:Nat} {k g n m o p:Int} {P:List Pr}
theorem does9_N (ec:Int) (i:Bool) (h:Wd A w wb b mb P) (hA:A≤700) (hno:prOf g P=none) (hna:∀r e W1 W2,AskR A W1 b mb (P.map Pr.x) g r e W2→e= .returned (.tuple #[.slice none 0 0,.int .i64 ec])∧Kept [] W1 W2) (hi:(i=true∧ec=6∧∃gn:Nat,g=(gn:Int)∧gn<16)∨(i=false∧ec=2∧isP g=false)):Calls Try.prog 9 #[P0 wb,aggV (Se.C (⟨k,g,n,m,o,p⟩:Se))] w (Dn A (⟨k,g,n,m,o,p⟩:Se) w wb b mb P):=by
 have H:=hide h
 have HP:=hide hno
 have HNA:=hide hna
 have HI:=hide hi
 clear h hno hna hi
 go_enter Try.func9,Try.ntmps9
 go_wp2_with (first |(refine wpBoxV rfl (.tmp 1) rfl (Se.C (⟨k,g,n,m,o,p⟩:Se)) rfl ?_;intro W1 b3 e1 B1 K1;have HB:=hide B1;have HG3:Hid (w.heap.size≤b3):=(by show _≤_;omega);have HK:=hide K1;have c0:W1.cell? ⟨b3,0,none⟩=some (.int .i64 k):=fits_cell B1 0 _ rfl;have c1:W1.cell? ⟨b3,1,none⟩=some (.int .i64 g):=fits_cell B1 1 _ rfl;have c4:W1.cell? ⟨b3,4,none⟩=some (.int .i64 o):=fits_cell B1 4 _ rfl;clear e1 B1 K1;refine Stp.go ?_))
 constructor
 go_upto_region 1 with fail
 go_cut [5] from 12 to 19 (fun x5 wc=>x5= .bool i∧wc=W1)
 case first=>
   rcases unhide HI with ⟨rfl,_,gn,rfl,hgn⟩ | ⟨rfl,_,hp⟩
   · have d1:decide ((gn:Int)≥0)=true:=by simp
     have d2:decide ((gn:Int)<16)=true:=by simp;omega
     go_wp2_with fail
     go_meet
     case rel=>exact ⟨rfl,rfl⟩
   · have hg2:decide (g≥0)=false∨(decide (g≥0)=true∧decide (g<16)=false):=by
       simp [isP] at hp
       by_cases e:0≤g
       · exact .inr ⟨by simpa using e,by simp;exact hp e⟩
       · exact .inl (by simpa using e)
     rcases hg2 with d1 | ⟨d1,d2⟩
     · go_wp2_with fail
       go_meet
       case rel=>exact ⟨rfl,rfl⟩
     · go_wp2_with fail
       go_meet
       case rel=>exact ⟨rfl,rfl⟩
 case rest=>
 obtain⟨rfl,hwc⟩:=hcut
 replace hwc:=hwc.symm
 subst hwc
 clear c0 c1 c4
 go_upto_region 3 with fail
 go_cut [20] from 20 to 20 (fun x20 wc=>x20= .bool i∧wc=W1)
 case first=>
   go_wp2_with fail
   go_meet
   case rel=>exact ⟨rfl,rfl⟩
 case rest=>
 obtain⟨hx20,hwc⟩:=hcut
 replace hwc:=hwc.symm
 subst hwc
 rename_i K9 hK9
 refine hK9 _ _ ?_
 clear hK9
 subst hx20
 go_cut [6] from 20 to 27 (fun x6 wc=>x6= .pointer none∧Hid (Kept [] W1 wc))
 case first=>
   rcases unhide HI with ⟨rfl,_,gn,rfl,hgn⟩ | ⟨rfl,_,_⟩
   · have HGN:=hide hgn
     have hgI:(gn:Int)<16:=by omega
     clear hgn
     go_upto_region 4 with fail
     have HPC:Hid (W1.cell? ⟨wb,1+gn,none⟩=some (.pointer none)):=fits_cell ((unhide H).wbk.kept (unhide HK) (by simp)) (1+gn) _ (by rw [Nat.add_comm,List.getElem?_cons_succ,ptrs_at P (unhide HGN),unhide HP];rfl)
     refine wp_region_any mixed (wpAny_tq 8 rfl (by kernel_rfl) [some (P0 wb),some (.pointer (some ⟨b3,1,none⟩)),some (.int .i64 (gn:Int)),some (P0 wb),some (.pointer (some ⟨wb,1,none⟩)),some (.pointer (some ⟨wb,1+gn,none⟩)),some (.pointer none),some (.pointer none)] rfl (by kernel_rfl) (by kernel_rfl) ?_ ?_)
     · intro i o' hi hsk ho a' w2 hout hin hk2
       replace hk2:Kept [] W1 w2:=ud hk2
       match i,ho,hsk with
       | 0,ho,hsk=>
         cases ho
         exact wp_move (.tmp 0) rfl _ ((ho9 hout 0).trans rfl) (tE rfl)
       | 1,ho,hsk=>
         cases ho
         exact o_fld31_1 (.tmp 3) rfl b3 0 ((ho9 hout 3).trans rfl) (tE rfl)
       | 2,ho,hsk=>
         cases ho
         exact o_load3 (.tmp 22) rfl _ _ (is_tq (hi9 hin 1 22) rfl) (hk2.cell (fits_cell (unhide HB) 1 _ rfl) (by simp)) (tE rfl)
       | 3,ho,hsk=>
         cases ho
         exact o_nil (.tmp 21) rfl _ (is_tq (hi9 hin 0 21) rfl) (tE rfl)
       | 4,ho,hsk=>
         cases ho
         exact o_fld46_1 (.tmp 24) rfl wb 0 (is_tq (hi9 hin 3 24) rfl) (tE rfl)
       | 5,ho,hsk=>
         cases ho
         exact o_idx44 (.tmp 25) (.tmp 23) rfl wb 1 gn (unhide HGN) (is_tq (hi9 hin 4 25) rfl) (is_tq (hi9 hin 2 23) rfl) (tE rfl)
       | 6,ho,hsk=>
         cases ho
         exact o_load43 (.tmp 26) rfl _ _ (is_tq (hi9 hin 5 26) rfl) (hk2.cell (unhide HPC) (by simp)) (tE rfl)
       | 7,ho,hsk=>
         cases ho
         exact wp_assignV (.tmp 27) rfl _ (is_tq (hi9 hin 6 27) rfl) (tE rfl)
     intro w9 hk9
     replace hk9:Kept [] W1 w9:=ud hk9
     simp only [valsQ,List.map_cons,List.map_nil,Option.getD_some,List.take_succ_cons,List.take_zero,putAll,Act.put,List.setIfInBounds_toArray,List.set_cons_succ,List.set_cons_zero]
     refine wpAny_done (by kernel_rfl) ?_ _
     go_wp2_with fail
     go_meet
     case rel=>exact ⟨rfl,hk9⟩
   · go_wp2_with fail
     go_meet
     case rel=>exact ⟨rfl,Kept.refl _ _⟩
 case rest=>
 obtain⟨rfl,HK9⟩:=hcut
 replace HB:=hide ((unhide HB).kept (unhide HK9) (by simp))
 replace HK:=hide ((unhide HK).trans (unhide HK9))
 clear HK9
 obtain⟨w9,hw9⟩:∃w9,w9=wc:=⟨_,rfl⟩
 subst hw9
 have c4:w9.cell? ⟨b3,4,none⟩=some (.int .i64 o):=fits_cell (unhide HB) 4 _ rfl
 go_upto_region 6 with fail
 clear c4
 go_cut [35] from 30 to 34 (fun x35 wc=>x35= .bool false∧wc=w9)
 case first=>
   have c4:w9.cell? ⟨b3,4,none⟩=some (.int .i64 o):=fits_cell (unhide HB) 4 _ rfl
   cases ho:decide (o= -1) with
   | true=>
     have o2:(o == -1)=true:=by simpa using ho
     have HO:=hide ho
     clear ho
     have o1:decide (o= -1)=true:=unhide HO
     go_wp2_with fail
     go_meet
     case rel=>exact ⟨rfl,rfl⟩
   | false=>
     have o2:(o == -1)=false:=by simpa using ho
     have HO:=hide ho
     clear ho
     have o1:decide (o= -1)=false:=unhide HO
     go_wp2_with fail
     go_meet
     case rel=>exact ⟨rfl,rfl⟩
 case rest=>
 obtain⟨rfl,hwc⟩:=hcut
 replace hwc:=hwc.symm
 subst hwc
 obtain⟨wc,hwc⟩:∃wc,wc=w9:=⟨_,rfl⟩
 subst hwc
 have c0:wc.cell? ⟨b3,0,none⟩=some (.int .i64 k):=fits_cell (unhide HB) 0 _ rfl
 go_upto_block 0 with fail
 clear c0
 go_cut [8,9,10] from 57 to 193 (fun x8 x9 x10 wd=>x8= .slice none 0 0∧x9= .slice none 0 0∧x10= .int .i64 ec∧Hid (Kept [] w wd))
 case first=>
   by_cases h1:k=1
   · subst h1
     have HD:=hide ((unhide H).dg.step0 (unhide HK))
     have c0:wc.cell? ⟨b3,0,none⟩=some (.int .i64 1):=fits_cell (unhide HB) 0 _ rfl
     go_upto_region 16 with fail
     clear c0
     refine wp_region_any mixed (wpAny_gx 16 rfl (by kernel_rfl) [some (P0 wb),some (P0 wb),some (P0 wb),some (P0 b),some (.pointer (some ⟨b3,1,none⟩)),some (.int .i64 g),some (.pointer (some ⟨b3,2,none⟩)),some (.int .i64 n),some (.pointer (some ⟨b3,3,none⟩)),some (.int .i64 m),none,none,none,none,none,none] rfl (by kernel_rfl) (fun l vs W9=>(SX5 wc (fun v W=>∃u i,v= .tuple #[u,i]∧AskR A wc b mb (P.map Pr.x) g (fun s q=>wantP s q n m) (.returned v) W) 10 11 12 13 14 15) (fun i=>l.getD i false) vs W9) ⟨fun _=>(Kept.refl _ _).drew,fun h9=>by simp at h9,fun x hx h9=>by simp only [List.mem_cons,List.mem_nil_iff,or_false] at hx;rcases hx with rfl | rfl | rfl | rfl | rfl <;> simp at h9⟩ ?_ ?_)
     · intro ix o' hi ho a' w2 l vs hls hlf hJ hout hin hdep hnot
       match ix,ho with
       | 0,ho=>
         cases ho
         have e0:a'.eval (.tmp 0)=P0 wb:=(ho9 hout 0).trans rfl
         exact wp_move (.tmp 0) rfl _ e0 (kp5 hJ rfl (by omega) (by decide))
       | 1,ho=>
         cases ho
         exact o_nil (.tmp 60) rfl _ (hx9 (hi9 hin 0 60) rfl) (kp5 hJ rfl (by omega) (by decide))
       | 2,ho=>
         cases ho
         exact o_fld46_0 (.tmp 61) rfl wb 0 (hx9 (hi9 hin 1 61) rfl) (kp5 hJ rfl (by omega) (by decide))
       | 3,ho=>
         cases ho
         have e0:a'.eval (.tmp 62)=P0 wb:=hx9 (hi9 hin 2 62) rfl
         have hk9:Kept [] wc w2:=hJ.n1 (ho9 hnot 10)
         exact o_load42 (.tmp 62) rfl _ _ e0 (hk9.cell (fits_cell ((unhide H).wbk.kept (unhide HK) (by simp)) 0 _ rfl) (by simp)) (kp5 hJ rfl (by omega) (by decide))
       | 4,ho=>
         cases ho
         have e0:a'.eval (.tmp 3)=P0 b3:=(ho9 hout 3).trans rfl
         exact o_fld31_1 (.tmp 3) rfl b3 0 e0 (kp5 hJ rfl (by omega) (by decide))
       | 5,ho=>
         cases ho
         have e0:a'.eval (.tmp 64)= .pointer (some ⟨b3,1,none⟩):=hx9 (hi9 hin 4 64) rfl
         have hk9:Kept [] wc w2:=hJ.n1 (ho9 hnot 10)
         exact o_load3 (.tmp 64) rfl _ _ e0 (hk9.cell (fits_cell (unhide HB) 1 _ rfl) (by simp)) (kp5 hJ rfl (by omega) (by decide))
       | 6,ho=>
         cases ho
         have e0:a'.eval (.tmp 3)=P0 b3:=(ho9 hout 3).trans rfl
         exact o_fld31_2 (.tmp 3) rfl b3 0 e0 (kp5 hJ rfl (by omega) (by decide))
       | 7,ho=>
         cases ho
         have e0:a'.eval (.tmp 66)= .pointer (some ⟨b3,2,none⟩):=hx9 (hi9 hin 6 66) rfl
         have hk9:Kept [] wc w2:=hJ.n1 (ho9 hnot 10)
         exact o_load3 (.tmp 66) rfl _ _ e0 (hk9.cell (fits_cell (unhide HB) 2 _ rfl) (by simp)) (kp5 hJ rfl (by omega) (by decide))
       | 8,ho=>
         cases ho
         have e0:a'.eval (.tmp 3)=P0 b3:=(ho9 hout 3).trans rfl
         exact o_fld31_3 (.tmp 3) rfl b3 0 e0 (kp5 hJ rfl (by omega) (by decide))
       | 9,ho=>
         cases ho
         have e0:a'.eval (.tmp 68)= .pointer (some ⟨b3,3,none⟩):=hx9 (hi9 hin 8 68) rfl
         have hk9:Kept [] wc w2:=hJ.n1 (ho9 hnot 10)
         exact o_load31 (.tmp 68) rfl _ _ e0 (hk9.cell (fits_cell (unhide HB) 3 _ rfl) (by simp)) (kp5 hJ rfl (by omega) (by decide))
       | 10,ho=>
         cases ho
         have e0:a'.eval (.tmp 63)=P0 b:=hx9 (hi9 hin 3 63) rfl
         have e1:a'.eval (.tmp 65)= .int .i64 g:=hx9 (hi9 hin 5 65) rfl
         have e2:a'.eval (.tmp 67)= .int .i64 n:=hx9 (hi9 hin 7 67) rfl
         have e3:a'.eval (.tmp 69)= .int .i64 m:=hx9 (hi9 hin 9 69) rfl
         have hk9:Kept [] wc w2:=hJ.n1 hlf
         refine wp_callF 15 _ _ rfl #[P0 b,.int .i64 g,.int .i64 n,.int .i64 m] (by simp [e0,e1,e2,e3]) (cg15 _ _) ((want15 ((unhide HD).step0 hk9) (by omega) g n m).mono ?_)
         intro e w3 h9
         obtain⟨u9,i9,rfl⟩:=h9.two
         exact⟨_,rfl,_,rfl,told_no rfl,nextG (by omega) (SX5.call hJ (by decide) (ho9 hnot 11) (ho9 hnot 12) (ho9 hnot 13) (ho9 hnot 14) (ho9 hnot 15) ⟨u9,i9,rfl,h9.since hk9⟩)⟩
       | 11,ho=>
         cases ho
         have e0:a'.eval (.tmp 70)=vs 10:=(hi9 hin 10 70).1
         have hk:=ho9 hdep 10
         exact wp_move (.tmp 70) rfl _ e0 (nx5 (c:=0) hJ rfl (by omega) (by decide) hk rfl)
       | 12,ho=>
         cases ho
         have e0:a'.eval (.tmp 59)=vs 11:=(hi9 hin 11 59).1
         have hc:=ho9 hdep 11
         obtain⟨hk,hq⟩:=hJ.a (11,0) (by simp) hc
         obtain⟨u9,i9,hu,_⟩:=hJ.n2 hk
         have e1:vs 11= .tuple #[u9,i9]:=hq.trans hu
         exact o_ext0 (.tmp 59) rfl u9 i9 (e0.trans e1) (nx5 (c:=1) hJ rfl (by omega) (by decide) hk (by rw [hu];rfl))
       | 13,ho=>
         cases ho
         have e0:a'.eval (.tmp 59)=vs 11:=(hi9 hin 11 59).1
         have hc:=ho9 hdep 11
         obtain⟨hk,hq⟩:=hJ.a (11,0) (by simp) hc
         obtain⟨u9,i9,hu,_⟩:=hJ.n2 hk
         have e1:vs 11= .tuple #[u9,i9]:=hq.trans hu
         exact o_ext1 (.tmp 59) rfl u9 i9 (e0.trans e1) (nx5 (c:=2) hJ rfl (by omega) (by decide) hk (by rw [hu];rfl))
       | 14,ho=>
         cases ho
         have e0:a'.eval (.tmp 71)=vs 12:=(hi9 hin 12 71).1
         have hc:=ho9 hdep 12
         obtain⟨hk,hq⟩:=hJ.a (12,1) (by simp) hc
         obtain⟨u9,i9,hu,_⟩:=hJ.n2 hk
         exact wp_assignV (.tmp 71) rfl _ e0 (nx5 (c:=1) hJ rfl (by omega) (by decide) hk hq)
       | 15,ho=>
         cases ho
         have e0:a'.eval (.tmp 72)=vs 13:=(hi9 hin 13 72).1
         have hc:=ho9 hdep 13
         obtain⟨hk,hq⟩:=hJ.a (13,2) (by simp) hc
         obtain⟨u9,i9,hu,_⟩:=hJ.n2 hk
         exact wp_assignV (.tmp 72) rfl _ e0 (nx5 (c:=2) hJ rfl (by omega) (by decide) hk hq)
     intro l_ vs4 V4 hl hJ htold
     have t0:vs4 0=P0 wb:=told_is _ (htold 0 (by decide)) rfl
     have t1:vs4 1=P0 wb:=told_is _ (htold 1 (by decide)) rfl
     have t2:vs4 2=P0 wb:=told_is _ (htold 2 (by decide)) rfl
     have t3:vs4 3=P0 b:=told_is _ (htold 3 (by decide)) rfl
     have t4:vs4 4= .pointer (some ⟨b3,1,none⟩):=told_is _ (htold 4 (by decide)) rfl
     have t5:vs4 5= .int .i64 g:=told_is _ (htold 5 (by decide)) rfl
     have t6:vs4 6= .pointer (some ⟨b3,2,none⟩):=told_is _ (htold 6 (by decide)) rfl
     have t7:vs4 7= .int .i64 n:=told_is _ (htold 7 (by decide)) rfl
     have t8:vs4 8= .pointer (some ⟨b3,3,none⟩):=told_is _ (htold 8 (by decide)) rfl
     have t9:vs4 9= .int .i64 m:=told_is _ (htold 9 (by decide)) rfl
     obtain⟨u9,i9,hu9,hAsk⟩:=hJ.n2 (hl 10 (by decide))
     have t11:vs4 11= .tuple #[u9,i9]:=(hJ.a (11,0) (by simp) (hl 11 (by decide))).2.trans (by rw [hu9];rfl)
     have t12:vs4 12=u9:=(hJ.a (12,1) (by simp) (hl 12 (by decide))).2.trans (by rw [hu9];rfl)
     have t13:vs4 13=i9:=(hJ.a (13,2) (by simp) (hl 13 (by decide))).2.trans (by rw [hu9];rfl)
     have t14:vs4 14=u9:=(hJ.a (14,1) (by simp) (hl 14 (by decide))).2.trans (by rw [hu9];rfl)
     have t15:vs4 15=i9:=(hJ.a (15,2) (by simp) (hl 15 (by decide))).2.trans (by rw [hu9];rfl)
     rw [show (List.range 16).map vs4= [vs4 0,vs4 1,vs4 2,vs4 3,vs4 4,vs4 5,vs4 6,vs4 7,vs4 8,vs4 9,vs4 10,vs4 11,vs4 12,vs4 13,vs4 14,vs4 15] from rfl]
     rw [hu9] at hAsk
     simp only [hu9,t0,t1,t2,t3,t4,t5,t6,t7,t8,t9,t11,t12,t13,t14,t15,putAll,Act.put,List.setIfInBounds_toArray,List.set_cons_succ,List.set_cons_zero]
     clear t0 t1 t2 t3 t4 t5 t6 t7 t8 t9 t11 t12 t13 t14 t15 htold hJ hl hu9
     obtain⟨h2,h3⟩:=(unhide HNA) _ _ _ _ hAsk
     obtain⟨h2a,h2b⟩:=ret2_inj h2
     subst h2a h2b
     clear h2 hAsk
     have HK4:=hide h3
     have HB4:=hide ((unhide HB).kept h3 (by simp))
     clear h3
     go_wp2_with fail
     go_meet
     case rel=>exact ⟨rfl,rfl,rfl,(unhide HK).trans (unhide HK4)⟩
   by_cases h2:k=2
   · subst h2
     have HD:=hide ((unhide H).dg.step0 (unhide HK))
     have c0:wc.cell? ⟨b3,0,none⟩=some (.int .i64 2):=fits_cell (unhide HB) 0 _ rfl
     go_upto_region 20 with fail
     clear c0
     refine wp_region_any mixed (wpAny_gx 14 rfl (by kernel_rfl) [some (P0 wb),some (P0 wb),some (P0 wb),some (P0 b),some (.pointer (some ⟨b3,1,none⟩)),some (.int .i64 g),some (.pointer (some ⟨b3,2,none⟩)),some (.int .i64 n),none,none,none,none,none,none] rfl (by kernel_rfl) (fun l vs W9=>(SX5 wc (fun v W=>∃u i,v= .tuple #[u,i]∧AskR A wc b mb (P.map Pr.x) g (fun s q=>askI3 s q n) (.returned v) W) 8 9 10 11 12 13) (fun i=>l.getD i false) vs W9) ⟨fun _=>(Kept.refl _ _).drew,fun h9=>by simp at h9,fun x hx h9=>by simp only [List.mem_cons,List.mem_nil_iff,or_false] at hx;rcases hx with rfl | rfl | rfl | rfl | rfl <;> simp at h9⟩ ?_ ?_)
     · intro ix o' hi ho a' w2 l vs hls hlf hJ hout hin hdep hnot
       match ix,ho with
       | 0,ho=>
         cases ho
         have e0:a'.eval (.tmp 0)=P0 wb:=(ho9 hout 0).trans rfl
         exact wp_move (.tmp 0) rfl _ e0 (kp5 hJ rfl (by omega) (by decide))
       | 1,ho=>
         cases ho
         exact o_nil (.tmp 84) rfl _ (hx9 (hi9 hin 0 84) rfl) (kp5 hJ rfl (by omega) (by decide))
       | 2,ho=>
         cases ho
         exact o_fld46_0 (.tmp 85) rfl wb 0 (hx9 (hi9 hin 1 85) rfl) (kp5 hJ rfl (by omega) (by decide))
       | 3,ho=>
         cases ho
         have e0:a'.eval (.tmp 86)=P0 wb:=hx9 (hi9 hin 2 86) rfl
         have hk9:Kept [] wc w2:=hJ.n1 (ho9 hnot 8)
         exact o_load42 (.tmp 86) rfl _ _ e0 (hk9.cell (fits_cell ((unhide H).wbk.kept (unhide HK) (by simp)) 0 _ rfl) (by simp)) (kp5 hJ rfl (by omega) (by decide))
       | 4,ho=>
         cases ho
         have e0:a'.eval (.tmp 3)=P0 b3:=(ho9 hout 3).trans rfl
         exact o_fld31_1 (.tmp 3) rfl b3 0 e0 (kp5 hJ rfl (by omega) (by decide))
       | 5,ho=>
         cases ho
         have e0:a'.eval (.tmp 88)= .pointer (some ⟨b3,1,none⟩):=hx9 (hi9 hin 4 88) rfl
         have hk9:Kept [] wc w2:=hJ.n1 (ho9 hnot 8)
         exact o_load3 (.tmp 88) rfl _ _ e0 (hk9.cell (fits_cell (unhide HB) 1 _ rfl) (by simp)) (kp5 hJ rfl (by omega) (by decide))
       | 6,ho=>
         cases ho
         have e0:a'.eval (.tmp 3)=P0 b3:=(ho9 hout 3).trans rfl
         exact o_fld31_2 (.tmp 3) rfl b3 0 e0 (kp5 hJ rfl (by omega) (by decide))
       | 7,ho=>
         cases ho
         have e0:a'.eval (.tmp 90)= .pointer (some ⟨b3,2,none⟩):=hx9 (hi9 hin 6 90) rfl
         have hk9:Kept [] wc w2:=hJ.n1 (ho9 hnot 8)
         exact o_load3 (.tmp 90) rfl _ _ e0 (hk9.cell (fits_cell (unhide HB) 2 _ rfl) (by simp)) (kp5 hJ rfl (by omega) (by decide))
       | 8,ho=>
         cases ho
         have e0:a'.eval (.tmp 87)=P0 b:=hx9 (hi9 hin 3 87) rfl
         have e1:a'.eval (.tmp 89)= .int .i64 g:=hx9 (hi9 hin 5 89) rfl
         have e2:a'.eval (.tmp 91)= .int .i64 n:=hx9 (hi9 hin 7 91) rfl
         have hk9:Kept [] wc w2:=hJ.n1 hlf
         refine wp_callF 16 _ _ rfl #[P0 b,.int .i64 g,.int .i64 n] (by simp [e0,e1,e2]) (cg16 _ _) ((clean16 ((unhide HD).step0 hk9) (by omega) g n).mono ?_)
         intro e w3 h9
         obtain⟨u9,i9,rfl⟩:=h9.two
         exact⟨_,rfl,_,rfl,told_no rfl,nextG (by omega) (SX5.call hJ (by decide) (ho9 hnot 9) (ho9 hnot 10) (ho9 hnot 11) (ho9 hnot 12) (ho9 hnot 13) ⟨u9,i9,rfl,h9.since hk9⟩)⟩
       | 9,ho=>
         cases ho
         have e0:a'.eval (.tmp 92)=vs 8:=(hi9 hin 8 92).1
         have hk:=ho9 hdep 8
         exact wp_move (.tmp 92) rfl _ e0 (nx5 (c:=0) hJ rfl (by omega) (by decide) hk rfl)
       | 10,ho=>
         cases ho
         have e0:a'.eval (.tmp 83)=vs 9:=(hi9 hin 9 83).1
         have hc:=ho9 hdep 9
         obtain⟨hk,hq⟩:=hJ.a (9,0) (by simp) hc
         obtain⟨u9,i9,hu,_⟩:=hJ.n2 hk
         have e1:vs 9= .tuple #[u9,i9]:=hq.trans hu
         exact o_ext0 (.tmp 83) rfl u9 i9 (e0.trans e1) (nx5 (c:=1) hJ rfl (by omega) (by decide) hk (by rw [hu];rfl))
       | 11,ho=>
         cases ho
         have e0:a'.eval (.tmp 83)=vs 9:=(hi9 hin 9 83).1
         have hc:=ho9 hdep 9
         obtain⟨hk,hq⟩:=hJ.a (9,0) (by simp) hc
         obtain⟨u9,i9,hu,_⟩:=hJ.n2 hk
         have e1:vs 9= .tuple #[u9,i9]:=hq.trans hu
         exact o_ext1 (.tmp 83) rfl u9 i9 (e0.trans e1) (nx5 (c:=2) hJ rfl (by omega) (by decide) hk (by rw [hu];rfl))
       | 12,ho=>
         cases ho
         have e0:a'.eval (.tmp 93)=vs 10:=(hi9 hin 10 93).1
         have hc:=ho9 hdep 10
         obtain⟨hk,hq⟩:=hJ.a (10,1) (by simp) hc
         obtain⟨u9,i9,hu,_⟩:=hJ.n2 hk
         exact wp_assignV (.tmp 93) rfl _ e0 (nx5 (c:=1) hJ rfl (by omega) (by decide) hk hq)
       | 13,ho=>
         cases ho
         have e0:a'.eval (.tmp 94)=vs 11:=(hi9 hin 11 94).1
         have hc:=ho9 hdep 11
         obtain⟨hk,hq⟩:=hJ.a (11,2) (by simp) hc
         obtain⟨u9,i9,hu,_⟩:=hJ.n2 hk
         exact wp_assignV (.tmp 94) rfl _ e0 (nx5 (c:=2) hJ rfl (by omega) (by decide) hk hq)
     intro l_ vs4 V4 hl hJ htold
     have t0:vs4 0=P0 wb:=told_is _ (htold 0 (by decide)) rfl
     have t1:vs4 1=P0 wb:=told_is _ (htold 1 (by decide)) rfl
     have t2:vs4 2=P0 wb:=told_is _ (htold 2 (by decide)) rfl
     have t3:vs4 3=P0 b:=told_is _ (htold 3 (by decide)) rfl
     have t4:vs4 4= .pointer (some ⟨b3,1,none⟩):=told_is _ (htold 4 (by decide)) rfl
     have t5:vs4 5= .int .i64 g:=told_is _ (htold 5 (by decide)) rfl
     have t6:vs4 6= .pointer (some ⟨b3,2,none⟩):=told_is _ (htold 6 (by decide)) rfl
     have t7:vs4 7= .int .i64 n:=told_is _ (htold 7 (by decide)) rfl
     obtain⟨u9,i9,hu9,hAsk⟩:=hJ.n2 (hl 8 (by decide))
     have t9:vs4 9= .tuple #[u9,i9]:=(hJ.a (9,0) (by simp) (hl 9 (by decide))).2.trans (by rw [hu9];rfl)
     have t10:vs4 10=u9:=(hJ.a (10,1) (by simp) (hl 10 (by decide))).2.trans (by rw [hu9];rfl)
     have t11:vs4 11=i9:=(hJ.a (11,2) (by simp) (hl 11 (by decide))).2.trans (by rw [hu9];rfl)
     have t12:vs4 12=u9:=(hJ.a (12,1) (by simp) (hl 12 (by decide))).2.trans (by rw [hu9];rfl)
     have t13:vs4 13=i9:=(hJ.a (13,2) (by simp) (hl 13 (by decide))).2.trans (by rw [hu9];rfl)
     rw [show (List.range 14).map vs4= [vs4 0,vs4 1,vs4 2,vs4 3,vs4 4,vs4 5,vs4 6,vs4 7,vs4 8,vs4 9,vs4 10,vs4 11,vs4 12,vs4 13] from rfl]
     rw [hu9] at hAsk
     simp only [hu9,t0,t1,t2,t3,t4,t5,t6,t7,t9,t10,t11,t12,t13,putAll,Act.put,List.setIfInBounds_toArray,List.set_cons_succ,List.set_cons_zero]
     clear t0 t1 t2 t3 t4 t5 t6 t7 t9 t10 t11 t12 t13 htold hJ hl hu9
     obtain⟨h2,h3⟩:=(unhide HNA) _ _ _ _ hAsk
     obtain⟨h2a,h2b⟩:=ret2_inj h2
     subst h2a h2b
     clear h2 hAsk
     have HK4:=hide h3
     have HB4:=hide ((unhide HB).kept h3 (by simp))
     clear h3
     go_wp2_with fail
     go_meet
     case rel=>exact ⟨rfl,rfl,rfl,(unhide HK).trans (unhide HK4)⟩
   by_cases h3:k=3
   · subst h3
     have HD:=hide ((unhide H).dg.step0 (unhide HK))
     have c0:wc.cell? ⟨b3,0,none⟩=some (.int .i64 3):=fits_cell (unhide HB) 0 _ rfl
     go_upto_region 24 with fail
     clear c0
     refine wp_region_any mixed (wpAny_gx 15 rfl (by kernel_rfl) [some (P0 wb),some (P0 wb),some (P0 wb),some (P0 b),some (.pointer (some ⟨b3,1,none⟩)),some (.int .i64 g),some (.pointer (some ⟨b3,2,none⟩)),some (.int .i64 n),some (.int .i64 o),none,none,none,none,none,none] rfl (by kernel_rfl) (fun l vs W9=>(SX5 wc (fun v W=>∃u i,v= .tuple #[u,i]∧AskR A wc b mb (P.map Pr.x) g (fun s q=>goneP s q n o) (.returned v) W) 9 10 11 12 13 14) (fun i=>l.getD i false) vs W9) ⟨fun _=>(Kept.refl _ _).drew,fun h9=>by simp at h9,fun x hx h9=>by simp only [List.mem_cons,List.mem_nil_iff,or_false] at hx;rcases hx with rfl | rfl | rfl | rfl | rfl <;> simp at h9⟩ ?_ ?_)
     · intro ix o' hi ho a' w2 l vs hls hlf hJ hout hin hdep hnot
       match ix,ho with
       | 0,ho=>
         cases ho
         have e0:a'.eval (.tmp 0)=P0 wb:=(ho9 hout 0).trans rfl
         exact wp_move (.tmp 0) rfl _ e0 (kp5 hJ rfl (by omega) (by decide))
       | 1,ho=>
         cases ho
         exact o_nil (.tmp 105) rfl _ (hx9 (hi9 hin 0 105) rfl) (kp5 hJ rfl (by omega) (by decide))
       | 2,ho=>
         cases ho
         exact o_fld46_0 (.tmp 106) rfl wb 0 (hx9 (hi9 hin 1 106) rfl) (kp5 hJ rfl (by omega) (by decide))
       | 3,ho=>
         cases ho
         have e0:a'.eval (.tmp 107)=P0 wb:=hx9 (hi9 hin 2 107) rfl
         have hk9:Kept [] wc w2:=hJ.n1 (ho9 hnot 9)
         exact o_load42 (.tmp 107) rfl _ _ e0 (hk9.cell (fits_cell ((unhide H).wbk.kept (unhide HK) (by simp)) 0 _ rfl) (by simp)) (kp5 hJ rfl (by omega) (by decide))
       | 4,ho=>
         cases ho
         have e0:a'.eval (.tmp 3)=P0 b3:=(ho9 hout 3).trans rfl
         exact o_fld31_1 (.tmp 3) rfl b3 0 e0 (kp5 hJ rfl (by omega) (by decide))
       | 5,ho=>
         cases ho
         have e0:a'.eval (.tmp 109)= .pointer (some ⟨b3,1,none⟩):=hx9 (hi9 hin 4 109) rfl
         have hk9:Kept [] wc w2:=hJ.n1 (ho9 hnot 9)
         exact o_load3 (.tmp 109) rfl _ _ e0 (hk9.cell (fits_cell (unhide HB) 1 _ rfl) (by simp)) (kp5 hJ rfl (by omega) (by decide))
       | 6,ho=>
         cases ho
         have e0:a'.eval (.tmp 3)=P0 b3:=(ho9 hout 3).trans rfl
         exact o_fld31_2 (.tmp 3) rfl b3 0 e0 (kp5 hJ rfl (by omega) (by decide))
       | 7,ho=>
         cases ho
         have e0:a'.eval (.tmp 111)= .pointer (some ⟨b3,2,none⟩):=hx9 (hi9 hin 6 111) rfl
         have hk9:Kept [] wc w2:=hJ.n1 (ho9 hnot 9)
         exact o_load3 (.tmp 111) rfl _ _ e0 (hk9.cell (fits_cell (unhide HB) 2 _ rfl) (by simp)) (kp5 hJ rfl (by omega) (by decide))
       | 8,ho=>
         cases ho
         have e0:a'.eval (.tmp 7)= .int .i64 o:=(ho9 hout 7).trans rfl
         exact wp_move (.tmp 7) rfl _ e0 (kp5 hJ rfl (by omega) (by decide))
       | 9,ho=>
         cases ho
         have e0:a'.eval (.tmp 108)=P0 b:=hx9 (hi9 hin 3 108) rfl
         have e1:a'.eval (.tmp 110)= .int .i64 g:=hx9 (hi9 hin 5 110) rfl
         have e2:a'.eval (.tmp 112)= .int .i64 n:=hx9 (hi9 hin 7 112) rfl
         have e3:a'.eval (.tmp 113)= .int .i64 o:=hx9 (hi9 hin 8 113) rfl
         have hk9:Kept [] wc w2:=hJ.n1 hlf
         refine wp_callF 17 _ _ rfl #[P0 b,.int .i64 g,.int .i64 n,.int .i64 o] (by simp [e0,e1,e2,e3]) (cg17 _ _) ((gone17 ((unhide HD).step0 hk9) (by omega) g n o).mono ?_)
         intro e w3 h9
         obtain⟨u9,i9,rfl⟩:=h9.two
         exact⟨_,rfl,_,rfl,told_no rfl,nextG (by omega) (SX5.call hJ (by decide) (ho9 hnot 10) (ho9 hnot 11) (ho9 hnot 12) (ho9 hnot 13) (ho9 hnot 14) ⟨u9,i9,rfl,h9.since hk9⟩)⟩
       | 10,ho=>
         cases ho
         have e0:a'.eval (.tmp 114)=vs 9:=(hi9 hin 9 114).1
         have hk:=ho9 hdep 9
         exact wp_move (.tmp 114) rfl _ e0 (nx5 (c:=0) hJ rfl (by omega) (by decide) hk rfl)
       | 11,ho=>
         cases ho
         have e0:a'.eval (.tmp 104)=vs 10:=(hi9 hin 10 104).1
         have hc:=ho9 hdep 10
         obtain⟨hk,hq⟩:=hJ.a (10,0) (by simp) hc
         obtain⟨u9,i9,hu,_⟩:=hJ.n2 hk
         have e1:vs 10= .tuple #[u9,i9]:=hq.trans hu
         exact o_ext0 (.tmp 104) rfl u9 i9 (e0.trans e1) (nx5 (c:=1) hJ rfl (by omega) (by decide) hk (by rw [hu];rfl))
       | 12,ho=>
         cases ho
         have e0:a'.eval (.tmp 104)=vs 10:=(hi9 hin 10 104).1
         have hc:=ho9 hdep 10
         obtain⟨hk,hq⟩:=hJ.a (10,0) (by simp) hc
         obtain⟨u9,i9,hu,_⟩:=hJ.n2 hk
         have e1:vs 10= .tuple #[u9,i9]:=hq.trans hu
         exact o_ext1 (.tmp 104) rfl u9 i9 (e0.trans e1) (nx5 (c:=2) hJ rfl (by omega) (by decide) hk (by rw [hu];rfl))
       | 13,ho=>
         cases ho
         have e0:a'.eval (.tmp 115)=vs 11:=(hi9 hin 11 115).1
         have hc:=ho9 hdep 11
         obtain⟨hk,hq⟩:=hJ.a (11,1) (by simp) hc
         obtain⟨u9,i9,hu,_⟩:=hJ.n2 hk
         exact wp_assignV (.tmp 115) rfl _ e0 (nx5 (c:=1) hJ rfl (by omega) (by decide) hk hq)
       | 14,ho=>
         cases ho
         have e0:a'.eval (.tmp 116)=vs 12:=(hi9 hin 12 116).1
         have hc:=ho9 hdep 12
         obtain⟨hk,hq⟩:=hJ.a (12,2) (by simp) hc
         obtain⟨u9,i9,hu,_⟩:=hJ.n2 hk
         exact wp_assignV (.tmp 116) rfl _ e0 (nx5 (c:=2) hJ rfl (by omega) (by decide) hk hq)
     intro l_ vs4 V4 hl hJ htold
     have t0:vs4 0=P0 wb:=told_is _ (htold 0 (by decide)) rfl
     have t1:vs4 1=P0 wb:=told_is _ (htold 1 (by decide)) rfl
     have t2:vs4 2=P0 wb:=told_is _ (htold 2 (by decide)) rfl
     have t3:vs4 3=P0 b:=told_is _ (htold 3 (by decide)) rfl
     have t4:vs4 4= .pointer (some ⟨b3,1,none⟩):=told_is _ (htold 4 (by decide)) rfl
     have t5:vs4 5= .int .i64 g:=told_is _ (htold 5 (by decide)) rfl
     have t6:vs4 6= .pointer (some ⟨b3,2,none⟩):=told_is _ (htold 6 (by decide)) rfl
     have t7:vs4 7= .int .i64 n:=told_is _ (htold 7 (by decide)) rfl
     have t8:vs4 8= .int .i64 o:=told_is _ (htold 8 (by decide)) rfl
     obtain⟨u9,i9,hu9,hAsk⟩:=hJ.n2 (hl 9 (by decide))
     have t10:vs4 10= .tuple #[u9,i9]:=(hJ.a (10,0) (by simp) (hl 10 (by decide))).2.trans (by rw [hu9];rfl)
     have t11:vs4 11=u9:=(hJ.a (11,1) (by simp) (hl 11 (by decide))).2.trans (by rw [hu9];rfl)
     have t12:vs4 12=i9:=(hJ.a (12,2) (by simp) (hl 12 (by decide))).2.trans (by rw [hu9];rfl)
     have t13:vs4 13=u9:=(hJ.a (13,1) (by simp) (hl 13 (by decide))).2.trans (by rw [hu9];rfl)
     have t14:vs4 14=i9:=(hJ.a (14,2) (by simp) (hl 14 (by decide))).2.trans (by rw [hu9];rfl)
     rw [show (List.range 15).map vs4= [vs4 0,vs4 1,vs4 2,vs4 3,vs4 4,vs4 5,vs4 6,vs4 7,vs4 8,vs4 9,vs4 10,vs4 11,vs4 12,vs4 13,vs4 14] from rfl]
     rw [hu9] at hAsk
     simp only [hu9,t0,t1,t2,t3,t4,t5,t6,t7,t8,t10,t11,t12,t13,t14,putAll,Act.put,List.setIfInBounds_toArray,List.set_cons_succ,List.set_cons_zero]
     clear t0 t1 t2 t3 t4 t5 t6 t7 t8 t10 t11 t12 t13 t14 htold hJ hl hu9
     obtain⟨h2,h3⟩:=(unhide HNA) _ _ _ _ hAsk
     obtain⟨h2a,h2b⟩:=ret2_inj h2
     subst h2a h2b
     clear h2 hAsk
     have HK4:=hide h3
     have HB4:=hide ((unhide HB).kept h3 (by simp))
     clear h3
     go_wp2_with fail
     go_meet
     case rel=>exact ⟨rfl,rfl,rfl,(unhide HK).trans (unhide HK4)⟩
   by_cases h4:k=4
   · subst h4
     have HD:=hide ((unhide H).dg.step0 (unhide HK))
     have c0:wc.cell? ⟨b3,0,none⟩=some (.int .i64 4):=fits_cell (unhide HB) 0 _ rfl
     go_upto_region 28 with fail
     clear c0
     refine wp_region_any mixed (wpAny_gx 15 rfl (by kernel_rfl) [some (P0 wb),some (P0 wb),some (P0 wb),some (P0 b),some (.pointer (some ⟨b3,1,none⟩)),some (.int .i64 g),some (.pointer (some ⟨b3,2,none⟩)),some (.int .i64 n),some (.int .i64 o),none,none,none,none,none,none] rfl (by kernel_rfl) (fun l vs W9=>(SX5 wc (fun v W=>∃u i,v= .tuple #[u,i]∧AskR A wc b mb (P.map Pr.x) g (fun s q=>gotP s q n o) (.returned v) W) 9 10 11 12 13 14) (fun i=>l.getD i false) vs W9) ⟨fun _=>(Kept.refl _ _).drew,fun h9=>by simp at h9,fun x hx h9=>by simp only [List.mem_cons,List.mem_nil_iff,or_false] at hx;rcases hx with rfl | rfl | rfl | rfl | rfl <;> simp at h9⟩ ?_ ?_)
     · intro ix o' hi ho a' w2 l vs hls hlf hJ hout hin hdep hnot
       match ix,ho with
       | 0,ho=>
         cases ho
         have e0:a'.eval (.tmp 0)=P0 wb:=(ho9 hout 0).trans rfl
         exact wp_move (.tmp 0) rfl _ e0 (kp5 hJ rfl (by omega) (by decide))
       | 1,ho=>
         cases ho
         exact o_nil (.tmp 127) rfl _ (hx9 (hi9 hin 0 127) rfl) (kp5 hJ rfl (by omega) (by decide))
       | 2,ho=>
         cases ho
         exact o_fld46_0 (.tmp 128) rfl wb 0 (hx9 (hi9 hin 1 128) rfl) (kp5 hJ rfl (by omega) (by decide))
       | 3,ho=>
         cases ho
         have e0:a'.eval (.tmp 129)=P0 wb:=hx9 (hi9 hin 2 129) rfl
         have hk9:Kept [] wc w2:=hJ.n1 (ho9 hnot 9)
         exact o_load42 (.tmp 129) rfl _ _ e0 (hk9.cell (fits_cell ((unhide H).wbk.kept (unhide HK) (by simp)) 0 _ rfl) (by simp)) (kp5 hJ rfl (by omega) (by decide))
       | 4,ho=>
         cases ho
         have e0:a'.eval (.tmp 3)=P0 b3:=(ho9 hout 3).trans rfl
         exact o_fld31_1 (.tmp 3) rfl b3 0 e0 (kp5 hJ rfl (by omega) (by decide))
       | 5,ho=>
         cases ho
         have e0:a'.eval (.tmp 131)= .pointer (some ⟨b3,1,none⟩):=hx9 (hi9 hin 4 131) rfl
         have hk9:Kept [] wc w2:=hJ.n1 (ho9 hnot 9)
         exact o_load3 (.tmp 131) rfl _ _ e0 (hk9.cell (fits_cell (unhide HB) 1 _ rfl) (by simp)) (kp5 hJ rfl (by omega) (by decide))
       | 6,ho=>
         cases ho
         have e0:a'.eval (.tmp 3)=P0 b3:=(ho9 hout 3).trans rfl
         exact o_fld31_2 (.tmp 3) rfl b3 0 e0 (kp5 hJ rfl (by omega) (by decide))
       | 7,ho=>
         cases ho
         have e0:a'.eval (.tmp 133)= .pointer (some ⟨b3,2,none⟩):=hx9 (hi9 hin 6 133) rfl
         have hk9:Kept [] wc w2:=hJ.n1 (ho9 hnot 9)
         exact o_load3 (.tmp 133) rfl _ _ e0 (hk9.cell (fits_cell (unhide HB) 2 _ rfl) (by simp)) (kp5 hJ rfl (by omega) (by decide))
       | 8,ho=>
         cases ho
         have e0:a'.eval (.tmp 7)= .int .i64 o:=(ho9 hout 7).trans rfl
         exact wp_move (.tmp 7) rfl _ e0 (kp5 hJ rfl (by omega) (by decide))
       | 9,ho=>
         cases ho
         have e0:a'.eval (.tmp 130)=P0 b:=hx9 (hi9 hin 3 130) rfl
         have e1:a'.eval (.tmp 132)= .int .i64 g:=hx9 (hi9 hin 5 132) rfl
         have e2:a'.eval (.tmp 134)= .int .i64 n:=hx9 (hi9 hin 7 134) rfl
         have e3:a'.eval (.tmp 135)= .int .i64 o:=hx9 (hi9 hin 8 135) rfl
         have hk9:Kept [] wc w2:=hJ.n1 hlf
         refine wp_callF 18 _ _ rfl #[P0 b,.int .i64 g,.int .i64 n,.int .i64 o] (by simp [e0,e1,e2,e3]) (cg18 _ _) ((got18 ((unhide HD).step0 hk9) (by omega) g n o).mono ?_)
         intro e w3 h9
         obtain⟨u9,i9,rfl⟩:=h9.two
         exact⟨_,rfl,_,rfl,told_no rfl,nextG (by omega) (SX5.call hJ (by decide) (ho9 hnot 10) (ho9 hnot 11) (ho9 hnot 12) (ho9 hnot 13) (ho9 hnot 14) ⟨u9,i9,rfl,h9.since hk9⟩)⟩
       | 10,ho=>
         cases ho
         have e0:a'.eval (.tmp 136)=vs 9:=(hi9 hin 9 136).1
         have hk:=ho9 hdep 9
         exact wp_move (.tmp 136) rfl _ e0 (nx5 (c:=0) hJ rfl (by omega) (by decide) hk rfl)
       | 11,ho=>
         cases ho
         have e0:a'.eval (.tmp 126)=vs 10:=(hi9 hin 10 126).1
         have hc:=ho9 hdep 10
         obtain⟨hk,hq⟩:=hJ.a (10,0) (by simp) hc
         obtain⟨u9,i9,hu,_⟩:=hJ.n2 hk
         have e1:vs 10= .tuple #[u9,i9]:=hq.trans hu
         exact o_ext0 (.tmp 126) rfl u9 i9 (e0.trans e1) (nx5 (c:=1) hJ rfl (by omega) (by decide) hk (by rw [hu];rfl))
       | 12,ho=>
         cases ho
         have e0:a'.eval (.tmp 126)=vs 10:=(hi9 hin 10 126).1
         have hc:=ho9 hdep 10
         obtain⟨hk,hq⟩:=hJ.a (10,0) (by simp) hc
         obtain⟨u9,i9,hu,_⟩:=hJ.n2 hk
         have e1:vs 10= .tuple #[u9,i9]:=hq.trans hu
         exact o_ext1 (.tmp 126) rfl u9 i9 (e0.trans e1) (nx5 (c:=2) hJ rfl (by omega) (by decide) hk (by rw [hu];rfl))
       | 13,ho=>
         cases ho
         have e0:a'.eval (.tmp 137)=vs 11:=(hi9 hin 11 137).1
         have hc:=ho9 hdep 11
         obtain⟨hk,hq⟩:=hJ.a (11,1) (by simp) hc
         obtain⟨u9,i9,hu,_⟩:=hJ.n2 hk
         exact wp_assignV (.tmp 137) rfl _ e0 (nx5 (c:=1) hJ rfl (by omega) (by decide) hk hq)
       | 14,ho=>
         cases ho
         have e0:a'.eval (.tmp 138)=vs 12:=(hi9 hin 12 138).1
         have hc:=ho9 hdep 12
         obtain⟨hk,hq⟩:=hJ.a (12,2) (by simp) hc
         obtain⟨u9,i9,hu,_⟩:=hJ.n2 hk
         exact wp_assignV (.tmp 138) rfl _ e0 (nx5 (c:=2) hJ rfl (by omega) (by decide) hk hq)
     intro l_ vs4 V4 hl hJ htold
     have t0:vs4 0=P0 wb:=told_is _ (htold 0 (by decide)) rfl
     have t1:vs4 1=P0 wb:=told_is _ (htold 1 (by decide)) rfl
     have t2:vs4 2=P0 wb:=told_is _ (htold 2 (by decide)) rfl
     have t3:vs4 3=P0 b:=told_is _ (htold 3 (by decide)) rfl
     have t4:vs4 4= .pointer (some ⟨b3,1,none⟩):=told_is _ (htold 4 (by decide)) rfl
     have t5:vs4 5= .int .i64 g:=told_is _ (htold 5 (by decide)) rfl
     have t6:vs4 6= .pointer (some ⟨b3,2,none⟩):=told_is _ (htold 6 (by decide)) rfl
     have t7:vs4 7= .int .i64 n:=told_is _ (htold 7 (by decide)) rfl
     have t8:vs4 8= .int .i64 o:=told_is _ (htold 8 (by decide)) rfl
     obtain⟨u9,i9,hu9,hAsk⟩:=hJ.n2 (hl 9 (by decide))
     have t10:vs4 10= .tuple #[u9,i9]:=(hJ.a (10,0) (by simp) (hl 10 (by decide))).2.trans (by rw [hu9];rfl)
     have t11:vs4 11=u9:=(hJ.a (11,1) (by simp) (hl 11 (by decide))).2.trans (by rw [hu9];rfl)
     have t12:vs4 12=i9:=(hJ.a (12,2) (by simp) (hl 12 (by decide))).2.trans (by rw [hu9];rfl)
     have t13:vs4 13=u9:=(hJ.a (13,1) (by simp) (hl 13 (by decide))).2.trans (by rw [hu9];rfl)
     have t14:vs4 14=i9:=(hJ.a (14,2) (by simp) (hl 14 (by decide))).2.trans (by rw [hu9];rfl)
     rw [show (List.range 15).map vs4= [vs4 0,vs4 1,vs4 2,vs4 3,vs4 4,vs4 5,vs4 6,vs4 7,vs4 8,vs4 9,vs4 10,vs4 11,vs4 12,vs4 13,vs4 14] from rfl]
     rw [hu9] at hAsk
     simp only [hu9,t0,t1,t2,t3,t4,t5,t6,t7,t8,t10,t11,t12,t13,t14,putAll,Act.put,List.setIfInBounds_toArray,List.set_cons_succ,List.set_cons_zero]
     clear t0 t1 t2 t3 t4 t5 t6 t7 t8 t10 t11 t12 t13 t14 htold hJ hl hu9
     obtain⟨h2,h3⟩:=(unhide HNA) _ _ _ _ hAsk
     obtain⟨h2a,h2b⟩:=ret2_inj h2
     subst h2a h2b
     clear h2 hAsk
     have HK4:=hide h3
     have HB4:=hide ((unhide HB).kept h3 (by simp))
     clear h3
     go_wp2_with fail
     go_meet
     case rel=>exact ⟨rfl,rfl,rfl,(unhide HK).trans (unhide HK4)⟩
   by_cases h5:k=5
   · subst h5
     have HD:=hide ((unhide H).dg.step0 (unhide HK))
     have c0:wc.cell? ⟨b3,0,none⟩=some (.int .i64 5):=fits_cell (unhide HB) 0 _ rfl
     go_upto_region 32 with fail
     clear c0
     refine wp_region_any mixed (wpAny_gx 15 rfl (by kernel_rfl) [some (P0 wb),some (P0 wb),some (P0 wb),some (P0 b),some (.pointer (some ⟨b3,1,none⟩)),some (.int .i64 g),some (.pointer (some ⟨b3,2,none⟩)),some (.int .i64 n),some (.int .i64 o),none,none,none,none,none,none] rfl (by kernel_rfl) (fun l vs W9=>(SX5 wc (fun v W=>∃u i,v= .tuple #[u,i]∧AskR A wc b mb (P.map Pr.x) g (fun s q=>relP s q n o) (.returned v) W) 9 10 11 12 13 14) (fun i=>l.getD i false) vs W9) ⟨fun _=>(Kept.refl _ _).drew,fun h9=>by simp at h9,fun x hx h9=>by simp only [List.mem_cons,List.mem_nil_iff,or_false] at hx;rcases hx with rfl | rfl | rfl | rfl | rfl <;> simp at h9⟩ ?_ ?_)
     · intro ix o' hi ho a' w2 l vs hls hlf hJ hout hin hdep hnot
       match ix,ho with
       | 0,ho=>
         cases ho
         have e0:a'.eval (.tmp 0)=P0 wb:=(ho9 hout 0).trans rfl
         exact wp_move (.tmp 0) rfl _ e0 (kp5 hJ rfl (by omega) (by decide))
       | 1,ho=>
         cases ho
         exact o_nil (.tmp 149) rfl _ (hx9 (hi9 hin 0 149) rfl) (kp5 hJ rfl (by omega) (by decide))
       | 2,ho=>
         cases ho
         exact o_fld46_0 (.tmp 150) rfl wb 0 (hx9 (hi9 hin 1 150) rfl) (kp5 hJ rfl (by omega) (by decide))
       | 3,ho=>
         cases ho
         have e0:a'.eval (.tmp 151)=P0 wb:=hx9 (hi9 hin 2 151) rfl
         have hk9:Kept [] wc w2:=hJ.n1 (ho9 hnot 9)
         exact o_load42 (.tmp 151) rfl _ _ e0 (hk9.cell (fits_cell ((unhide H).wbk.kept (unhide HK) (by simp)) 0 _ rfl) (by simp)) (kp5 hJ rfl (by omega) (by decide))
       | 4,ho=>
         cases ho
         have e0:a'.eval (.tmp 3)=P0 b3:=(ho9 hout 3).trans rfl
         exact o_fld31_1 (.tmp 3) rfl b3 0 e0 (kp5 hJ rfl (by omega) (by decide))
       | 5,ho=>
         cases ho
         have e0:a'.eval (.tmp 153)= .pointer (some ⟨b3,1,none⟩):=hx9 (hi9 hin 4 153) rfl
         have hk9:Kept [] wc w2:=hJ.n1 (ho9 hnot 9)
         exact o_load3 (.tmp 153) rfl _ _ e0 (hk9.cell (fits_cell (unhide HB) 1 _ rfl) (by simp)) (kp5 hJ rfl (by omega) (by decide))
       | 6,ho=>
         cases ho
         have e0:a'.eval (.tmp 3)=P0 b3:=(ho9 hout 3).trans rfl
         exact o_fld31_2 (.tmp 3) rfl b3 0 e0 (kp5 hJ rfl (by omega) (by decide))
       | 7,ho=>
         cases ho
         have e0:a'.eval (.tmp 155)= .pointer (some ⟨b3,2,none⟩):=hx9 (hi9 hin 6 155) rfl
         have hk9:Kept [] wc w2:=hJ.n1 (ho9 hnot 9)
         exact o_load3 (.tmp 155) rfl _ _ e0 (hk9.cell (fits_cell (unhide HB) 2 _ rfl) (by simp)) (kp5 hJ rfl (by omega) (by decide))
       | 8,ho=>
         cases ho
         have e0:a'.eval (.tmp 7)= .int .i64 o:=(ho9 hout 7).trans rfl
         exact wp_move (.tmp 7) rfl _ e0 (kp5 hJ rfl (by omega) (by decide))
       | 9,ho=>
         cases ho
         have e0:a'.eval (.tmp 152)=P0 b:=hx9 (hi9 hin 3 152) rfl
         have e1:a'.eval (.tmp 154)= .int .i64 g:=hx9 (hi9 hin 5 154) rfl
         have e2:a'.eval (.tmp 156)= .int .i64 n:=hx9 (hi9 hin 7 156) rfl
         have e3:a'.eval (.tmp 157)= .int .i64 o:=hx9 (hi9 hin 8 157) rfl
         have hk9:Kept [] wc w2:=hJ.n1 hlf
         refine wp_callF 19 _ _ rfl #[P0 b,.int .i64 g,.int .i64 n,.int .i64 o] (by simp [e0,e1,e2,e3]) (cg19 _ _) ((rel19 ((unhide HD).step0 hk9) (by omega) g n o).mono ?_)
         intro e w3 h9
         obtain⟨u9,i9,rfl⟩:=h9.two
         exact⟨_,rfl,_,rfl,told_no rfl,nextG (by omega) (SX5.call hJ (by decide) (ho9 hnot 10) (ho9 hnot 11) (ho9 hnot 12) (ho9 hnot 13) (ho9 hnot 14) ⟨u9,i9,rfl,h9.since hk9⟩)⟩
       | 10,ho=>
         cases ho
         have e0:a'.eval (.tmp 158)=vs 9:=(hi9 hin 9 158).1
         have hk:=ho9 hdep 9
         exact wp_move (.tmp 158) rfl _ e0 (nx5 (c:=0) hJ rfl (by omega) (by decide) hk rfl)
       | 11,ho=>
         cases ho
         have e0:a'.eval (.tmp 148)=vs 10:=(hi9 hin 10 148).1
         have hc:=ho9 hdep 10
         obtain⟨hk,hq⟩:=hJ.a (10,0) (by simp) hc
         obtain⟨u9,i9,hu,_⟩:=hJ.n2 hk
         have e1:vs 10= .tuple #[u9,i9]:=hq.trans hu
         exact o_ext0 (.tmp 148) rfl u9 i9 (e0.trans e1) (nx5 (c:=1) hJ rfl (by omega) (by decide) hk (by rw [hu];rfl))
       | 12,ho=>
         cases ho
         have e0:a'.eval (.tmp 148)=vs 10:=(hi9 hin 10 148).1
         have hc:=ho9 hdep 10
         obtain⟨hk,hq⟩:=hJ.a (10,0) (by simp) hc
         obtain⟨u9,i9,hu,_⟩:=hJ.n2 hk
         have e1:vs 10= .tuple #[u9,i9]:=hq.trans hu
         exact o_ext1 (.tmp 148) rfl u9 i9 (e0.trans e1) (nx5 (c:=2) hJ rfl (by omega) (by decide) hk (by rw [hu];rfl))
       | 13,ho=>
         cases ho
         have e0:a'.eval (.tmp 159)=vs 11:=(hi9 hin 11 159).1
         have hc:=ho9 hdep 11
         obtain⟨hk,hq⟩:=hJ.a (11,1) (by simp) hc
         obtain⟨u9,i9,hu,_⟩:=hJ.n2 hk
         exact wp_assignV (.tmp 159) rfl _ e0 (nx5 (c:=1) hJ rfl (by omega) (by decide) hk hq)
       | 14,ho=>
         cases ho
         have e0:a'.eval (.tmp 160)=vs 12:=(hi9 hin 12 160).1
         have hc:=ho9 hdep 12
         obtain⟨hk,hq⟩:=hJ.a (12,2) (by simp) hc
         obtain⟨u9,i9,hu,_⟩:=hJ.n2 hk
         exact wp_assignV (.tmp 160) rfl _ e0 (nx5 (c:=2) hJ rfl (by omega) (by decide) hk hq)
     intro l_ vs4 V4 hl hJ htold
     have t0:vs4 0=P0 wb:=told_is _ (htold 0 (by decide)) rfl
     have t1:vs4 1=P0 wb:=told_is _ (htold 1 (by decide)) rfl
     have t2:vs4 2=P0 wb:=told_is _ (htold 2 (by decide)) rfl
     have t3:vs4 3=P0 b:=told_is _ (htold 3 (by decide)) rfl
     have t4:vs4 4= .pointer (some ⟨b3,1,none⟩):=told_is _ (htold 4 (by decide)) rfl
     have t5:vs4 5= .int .i64 g:=told_is _ (htold 5 (by decide)) rfl
     have t6:vs4 6= .pointer (some ⟨b3,2,none⟩):=told_is _ (htold 6 (by decide)) rfl
     have t7:vs4 7= .int .i64 n:=told_is _ (htold 7 (by decide)) rfl
     have t8:vs4 8= .int .i64 o:=told_is _ (htold 8 (by decide)) rfl
     obtain⟨u9,i9,hu9,hAsk⟩:=hJ.n2 (hl 9 (by decide))
     have t10:vs4 10= .tuple #[u9,i9]:=(hJ.a (10,0) (by simp) (hl 10 (by decide))).2.trans (by rw [hu9];rfl)
     have t11:vs4 11=u9:=(hJ.a (11,1) (by simp) (hl 11 (by decide))).2.trans (by rw [hu9];rfl)
     have t12:vs4 12=i9:=(hJ.a (12,2) (by simp) (hl 12 (by decide))).2.trans (by rw [hu9];rfl)
     have t13:vs4 13=u9:=(hJ.a (13,1) (by simp) (hl 13 (by decide))).2.trans (by rw [hu9];rfl)
     have t14:vs4 14=i9:=(hJ.a (14,2) (by simp) (hl 14 (by decide))).2.trans (by rw [hu9];rfl)
     rw [show (List.range 15).map vs4= [vs4 0,vs4 1,vs4 2,vs4 3,vs4 4,vs4 5,vs4 6,vs4 7,vs4 8,vs4 9,vs4 10,vs4 11,vs4 12,vs4 13,vs4 14] from rfl]
     rw [hu9] at hAsk
     simp only [hu9,t0,t1,t2,t3,t4,t5,t6,t7,t8,t10,t11,t12,t13,t14,putAll,Act.put,List.setIfInBounds_toArray,List.set_cons_succ,List.set_cons_zero]
     clear t0 t1 t2 t3 t4 t5 t6 t7 t8 t10 t11 t12 t13 t14 htold hJ hl hu9
     obtain⟨h2,h3⟩:=(unhide HNA) _ _ _ _ hAsk
     obtain⟨h2a,h2b⟩:=ret2_inj h2
     subst h2a h2b
     clear h2 hAsk
     have HK4:=hide h3
     have HB4:=hide ((unhide HB).kept h3 (by simp))
     clear h3
     go_wp2_with fail
     go_meet
     case rel=>exact ⟨rfl,rfl,rfl,(unhide HK).trans (unhide HK4)⟩
   by_cases h6:k=6
   · subst h6
     have HD:=hide ((unhide H).dg.step0 (unhide HK))
     have c0:wc.cell? ⟨b3,0,none⟩=some (.int .i64 6):=fits_cell (unhide HB) 0 _ rfl
     go_upto_region 36 with fail
     clear c0
     refine wp_region_any mixed (wpAny_gx 17 rfl (by kernel_rfl) [some (P0 wb),some (P0 wb),some (P0 wb),some (P0 b),some (.pointer (some ⟨b3,1,none⟩)),some (.int .i64 g),some (.pointer (some ⟨b3,2,none⟩)),some (.int .i64 n),some (.int .i64 o),some (.pointer (some ⟨b3,5,none⟩)),some (.int .i64 p),none,none,none,none,none,none] rfl (by kernel_rfl) (fun l vs W9=>(SX5 wc (fun v W=>∃u i,v= .tuple #[u,i]∧AskR A wc b mb (P.map Pr.x) g (fun s q=>wroteP s q n o p) (.returned v) W) 11 12 13 14 15 16) (fun i=>l.getD i false) vs W9) ⟨fun _=>(Kept.refl _ _).drew,fun h9=>by simp at h9,fun x hx h9=>by simp only [List.mem_cons,List.mem_nil_iff,or_false] at hx;rcases hx with rfl | rfl | rfl | rfl | rfl <;> simp at h9⟩ ?_ ?_)
     · intro ix o' hi ho a' w2 l vs hls hlf hJ hout hin hdep hnot
       match ix,ho with
       | 0,ho=>
         cases ho
         have e0:a'.eval (.tmp 0)=P0 wb:=(ho9 hout 0).trans rfl
         exact wp_move (.tmp 0) rfl _ e0 (kp5 hJ rfl (by omega) (by decide))
       | 1,ho=>
         cases ho
         exact o_nil (.tmp 171) rfl _ (hx9 (hi9 hin 0 171) rfl) (kp5 hJ rfl (by omega) (by decide))
       | 2,ho=>
         cases ho
         exact o_fld46_0 (.tmp 172) rfl wb 0 (hx9 (hi9 hin 1 172) rfl) (kp5 hJ rfl (by omega) (by decide))
       | 3,ho=>
         cases ho
         have e0:a'.eval (.tmp 173)=P0 wb:=hx9 (hi9 hin 2 173) rfl
         have hk9:Kept [] wc w2:=hJ.n1 (ho9 hnot 11)
         exact o_load42 (.tmp 173) rfl _ _ e0 (hk9.cell (fits_cell ((unhide H).wbk.kept (unhide HK) (by simp)) 0 _ rfl) (by simp)) (kp5 hJ rfl (by omega) (by decide))
       | 4,ho=>
         cases ho
         have e0:a'.eval (.tmp 3)=P0 b3:=(ho9 hout 3).trans rfl
         exact o_fld31_1 (.tmp 3) rfl b3 0 e0 (kp5 hJ rfl (by omega) (by decide))
       | 5,ho=>
         cases ho
         have e0:a'.eval (.tmp 175)= .pointer (some ⟨b3,1,none⟩):=hx9 (hi9 hin 4 175) rfl
         have hk9:Kept [] wc w2:=hJ.n1 (ho9 hnot 11)
         exact o_load3 (.tmp 175) rfl _ _ e0 (hk9.cell (fits_cell (unhide HB) 1 _ rfl) (by simp)) (kp5 hJ rfl (by omega) (by decide))
       | 6,ho=>
         cases ho
         have e0:a'.eval (.tmp 3)=P0 b3:=(ho9 hout 3).trans rfl
         exact o_fld31_2 (.tmp 3) rfl b3 0 e0 (kp5 hJ rfl (by omega) (by decide))
       | 7,ho=>
         cases ho
         have e0:a'.eval (.tmp 177)= .pointer (some ⟨b3,2,none⟩):=hx9 (hi9 hin 6 177) rfl
         have hk9:Kept [] wc w2:=hJ.n1 (ho9 hnot 11)
         exact o_load3 (.tmp 177) rfl _ _ e0 (hk9.cell (fits_cell (unhide HB) 2 _ rfl) (by simp)) (kp5 hJ rfl (by omega) (by decide))
       | 8,ho=>
         cases ho
         have e0:a'.eval (.tmp 7)= .int .i64 o:=(ho9 hout 7).trans rfl
         exact wp_move (.tmp 7) rfl _ e0 (kp5 hJ rfl (by omega) (by decide))
       | 9,ho=>
         cases ho
         have e0:a'.eval (.tmp 3)=P0 b3:=(ho9 hout 3).trans rfl
         exact o_fld31_5 (.tmp 3) rfl b3 0 e0 (kp5 hJ rfl (by omega) (by decide))
       | 10,ho=>
         cases ho
         have e0:a'.eval (.tmp 180)= .pointer (some ⟨b3,5,none⟩):=hx9 (hi9 hin 9 180) rfl
         have hk9:Kept [] wc w2:=hJ.n1 (ho9 hnot 11)
         exact o_load2 (.tmp 180) rfl _ _ e0 (hk9.cell (fits_cell (unhide HB) 5 _ rfl) (by simp)) (kp5 hJ rfl (by omega) (by decide))
       | 11,ho=>
         cases ho
         have e0:a'.eval (.tmp 174)=P0 b:=hx9 (hi9 hin 3 174) rfl
         have e1:a'.eval (.tmp 176)= .int .i64 g:=hx9 (hi9 hin 5 176) rfl
         have e2:a'.eval (.tmp 178)= .int .i64 n:=hx9 (hi9 hin 7 178) rfl
         have e3:a'.eval (.tmp 179)= .int .i64 o:=hx9 (hi9 hin 8 179) rfl
         have e4:a'.eval (.tmp 181)= .int .i64 p:=hx9 (hi9 hin 10 181) rfl
         have hk9:Kept [] wc w2:=hJ.n1 hlf
         refine wp_callF 20 _ _ rfl #[P0 b,.int .i64 g,.int .i64 n,.int .i64 o,.int .i64 p] (by simp [e0,e1,e2,e3,e4]) (cg20 _ _) ((wrote20 ((unhide HD).step0 hk9) (by omega) g n o p).mono ?_)
         intro e w3 h9
         obtain⟨u9,i9,rfl⟩:=h9.two
         exact⟨_,rfl,_,rfl,told_no rfl,nextG (by omega) (SX5.call hJ (by decide) (ho9 hnot 12) (ho9 hnot 13) (ho9 hnot 14) (ho9 hnot 15) (ho9 hnot 16) ⟨u9,i9,rfl,h9.since hk9⟩)⟩
       | 12,ho=>
         cases ho
         have e0:a'.eval (.tmp 182)=vs 11:=(hi9 hin 11 182).1
         have hk:=ho9 hdep 11
         exact wp_move (.tmp 182) rfl _ e0 (nx5 (c:=0) hJ rfl (by omega) (by decide) hk rfl)
       | 13,ho=>
         cases ho
         have e0:a'.eval (.tmp 170)=vs 12:=(hi9 hin 12 170).1
         have hc:=ho9 hdep 12
         obtain⟨hk,hq⟩:=hJ.a (12,0) (by simp) hc
         obtain⟨u9,i9,hu,_⟩:=hJ.n2 hk
         have e1:vs 12= .tuple #[u9,i9]:=hq.trans hu
         exact o_ext0 (.tmp 170) rfl u9 i9 (e0.trans e1) (nx5 (c:=1) hJ rfl (by omega) (by decide) hk (by rw [hu];rfl))
       | 14,ho=>
         cases ho
         have e0:a'.eval (.tmp 170)=vs 12:=(hi9 hin 12 170).1
         have hc:=ho9 hdep 12
         obtain⟨hk,hq⟩:=hJ.a (12,0) (by simp) hc
         obtain⟨u9,i9,hu,_⟩:=hJ.n2 hk
         have e1:vs 12= .tuple #[u9,i9]:=hq.trans hu
         exact o_ext1 (.tmp 170) rfl u9 i9 (e0.trans e1) (nx5 (c:=2) hJ rfl (by omega) (by decide) hk (by rw [hu];rfl))
       | 15,ho=>
         cases ho
         have e0:a'.eval (.tmp 183)=vs 13:=(hi9 hin 13 183).1
         have hc:=ho9 hdep 13
         obtain⟨hk,hq⟩:=hJ.a (13,1) (by simp) hc
         obtain⟨u9,i9,hu,_⟩:=hJ.n2 hk
         exact wp_assignV (.tmp 183) rfl _ e0 (nx5 (c:=1) hJ rfl (by omega) (by decide) hk hq)
       | 16,ho=>
         cases ho
         have e0:a'.eval (.tmp 184)=vs 14:=(hi9 hin 14 184).1
         have hc:=ho9 hdep 14
         obtain⟨hk,hq⟩:=hJ.a (14,2) (by simp) hc
         obtain⟨u9,i9,hu,_⟩:=hJ.n2 hk
         exact wp_assignV (.tmp 184) rfl _ e0 (nx5 (c:=2) hJ rfl (by omega) (by decide) hk hq)
     intro l_ vs4 V4 hl hJ htold
     have t0:vs4 0=P0 wb:=told_is _ (htold 0 (by decide)) rfl
     have t1:vs4 1=P0 wb:=told_is _ (htold 1 (by decide)) rfl
     have t2:vs4 2=P0 wb:=told_is _ (htold 2 (by decide)) rfl
     have t3:vs4 3=P0 b:=told_is _ (htold 3 (by decide)) rfl
     have t4:vs4 4= .pointer (some ⟨b3,1,none⟩):=told_is _ (htold 4 (by decide)) rfl
     have t5:vs4 5= .int .i64 g:=told_is _ (htold 5 (by decide)) rfl
     have t6:vs4 6= .pointer (some ⟨b3,2,none⟩):=told_is _ (htold 6 (by decide)) rfl
     have t7:vs4 7= .int .i64 n:=told_is _ (htold 7 (by decide)) rfl
     have t8:vs4 8= .int .i64 o:=told_is _ (htold 8 (by decide)) rfl
     have t9:vs4 9= .pointer (some ⟨b3,5,none⟩):=told_is _ (htold 9 (by decide)) rfl
     have t10:vs4 10= .int .i64 p:=told_is _ (htold 10 (by decide)) rfl
     obtain⟨u9,i9,hu9,hAsk⟩:=hJ.n2 (hl 11 (by decide))
     have t12:vs4 12= .tuple #[u9,i9]:=(hJ.a (12,0) (by simp) (hl 12 (by decide))).2.trans (by rw [hu9];rfl)
     have t13:vs4 13=u9:=(hJ.a (13,1) (by simp) (hl 13 (by decide))).2.trans (by rw [hu9];rfl)
     have t14:vs4 14=i9:=(hJ.a (14,2) (by simp) (hl 14 (by decide))).2.trans (by rw [hu9];rfl)
     have t15:vs4 15=u9:=(hJ.a (15,1) (by simp) (hl 15 (by decide))).2.trans (by rw [hu9];rfl)
     have t16:vs4 16=i9:=(hJ.a (16,2) (by simp) (hl 16 (by decide))).2.trans (by rw [hu9];rfl)
     rw [show (List.range 17).map vs4= [vs4 0,vs4 1,vs4 2,vs4 3,vs4 4,vs4 5,vs4 6,vs4 7,vs4 8,vs4 9,vs4 10,vs4 11,vs4 12,vs4 13,vs4 14,vs4 15,vs4 16] from rfl]
     rw [hu9] at hAsk
     simp only [hu9,t0,t1,t2,t3,t4,t5,t6,t7,t8,t9,t10,t12,t13,t14,t15,t16,putAll,Act.put,List.setIfInBounds_toArray,List.set_cons_succ,List.set_cons_zero]
     clear t0 t1 t2 t3 t4 t5 t6 t7 t8 t9 t10 t12 t13 t14 t15 t16 htold hJ hl hu9
     obtain⟨h2,h3⟩:=(unhide HNA) _ _ _ _ hAsk
     obtain⟨h2a,h2b⟩:=ret2_inj h2
     subst h2a h2b
     clear h2 hAsk
     have HK4:=hide h3
     have HB4:=hide ((unhide HB).kept h3 (by simp))
     clear h3
     go_wp2_with fail
     go_meet
     case rel=>exact ⟨rfl,rfl,rfl,(unhide HK).trans (unhide HK4)⟩
   have q1:decide (k=1)=false:=by simpa using h1
   have p1:(k == 1)=false:=by simpa using h1
   have q2:decide (k=2)=false:=by simpa using h2
   have p2:(k == 2)=false:=by simpa using h2
   have q3:decide (k=3)=false:=by simpa using h3
   have p3:(k == 3)=false:=by simpa using h3
   have q4:decide (k=4)=false:=by simpa using h4
   have p4:(k == 4)=false:=by simpa using h4
   have q5:decide (k=5)=false:=by simpa using h5
   have p5:(k == 5)=false:=by simpa using h5
   have q6:decide (k=6)=false:=by simpa using h6
   have p6:(k == 6)=false:=by simpa using h6
   clear h1 h2 h3 h4 h5 h6
   have c0:wc.cell? ⟨b3,0,none⟩=some (.int .i64 k):=fits_cell (unhide HB) 0 _ rfl
   go_wp2_with fail
   go_ret
   exact⟨rfl,P,((unhide H).step0 (unhide HK)).mono (by omega),.inl ⟨rfl,unhide HK,fun y hy=>by rw [unhide HP] at hy;cases hy⟩⟩
 case rest=>
   obtain⟨rfl,rfl,rfl,HKE⟩:=hcut
   rcases unhide HI with ⟨rfl,rfl,_⟩ | ⟨rfl,rfl,_⟩
   · go_wp2_with fail
     go_ret
     exact⟨rfl,P,((unhide H).step0 (unhide HKE)).mono (by omega),.inl ⟨rfl,unhide HKE,fun y hy=>by rw [unhide HP] at hy;cases hy⟩⟩
   · go_wp2_with fail
     go_ret
     exact⟨rfl,P,((unhide H).step0 (unhide HKE)).mono (by omega),.inl ⟨rfl,unhide HKE,fun y hy=>by rw [unhide HP] at hy;cases hy⟩⟩
theorem does9 (h:Wd A w wb b mb P) (hA:A≤700) (x:Se):Calls Try.prog 9 #[P0 wb,aggV x.C] w (Dn A x w wb b mb P):=by
 obtain⟨k,g,n,m,o,p⟩:=x
 cases hg:isP g with
 | false=>
   have hno:prOf g P=none:=by
     cases hp:prOf g P with
     | none=>rfl
     | some y=>
       have hy:=prOf_some hp
       have h8:=h.dg.may y.x (h.mem hy.1)
       rw [hy.2] at h8
       simp [isP] at hg
       omega
   refine does9_N 2 false h hA hno (fun r e W1 W2 ha=> ?_) (.inr ⟨rfl,rfl,hg⟩)
   rcases ha with ⟨_,h2,h3⟩ | ⟨h9,_⟩ | ⟨x9,ln,v,h1,_⟩
   · exact⟨h2,h3⟩
   · rw [hg] at h9;cases h9
   · rw [prOf_lk,hno] at h1;cases h1
 | true=>
   obtain⟨gn,rfl⟩:∃j:Nat,g=(j:Int):=⟨g.toNat,by simp [isP] at hg;omega⟩
   have hgn:gn<16:=by simp [isP] at hg;omega
   cases hp:prOf (gn:Int) P with
   | none=>
     refine does9_N 6 true h hA hp (fun r e W1 W2 ha=> ?_) (.inl ⟨rfl,rfl,gn,rfl,hgn⟩)
     rcases ha with ⟨h9,_⟩ | ⟨_,_,h2,h3⟩ | ⟨x9,ln,v,h1,_⟩
     · rw [hg] at h9;cases h9
     · exact⟨h2,h3⟩
     · rw [prOf_lk,hp] at h1;cases h1
   | some y=>exact does9_C h hA hgn hp
end Go.Proofs.Ytbigongmlpoahaa.D
