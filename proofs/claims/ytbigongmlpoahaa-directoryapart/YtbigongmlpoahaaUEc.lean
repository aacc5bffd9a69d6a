import Derived.Test.YtbigongmlpoahaaUEb
namespace Go.Proofs.Ytbigongmlpoahaa.D
set_option maxHeartbeats 8000000
set_option maxRecDepth 100000
set_option linter.unusedSimpArgs false
open Go.RowKit Go.Shelf
variable {A:Nat} {w:World} {wb b mb gn:Nat} {k n m o p:Int} {P:List Pr} {y:Pr}
theorem does9_C (h:Wd A w wb b mb P) (hA:A≤700) (hgn:gn<16) (hp:prOf gn P=some y):Calls Try.prog 9 #[P0 wb,aggV (Se.C (⟨k,(gn:Int),n,m,o,p⟩:Se))] w (Dn A (⟨k,(gn:Int),n,m,o,p⟩:Se) w wb b mb P):=by
 have H:=hide h
 have HP:=hide hp
 have HGN:=hide hgn
 have hgI:(gn:Int)<16:=by omega
 have d1:decide ((gn:Int)≥0)=true:=by simp
 have d2:decide ((gn:Int)<16)=true:=by simpa using hgI
 clear h hp hgn
 go_enter Try.func9,Try.ntmps9
 go_wp2_with (first |(refine wpBoxV rfl (.tmp 1) rfl (Se.C (⟨k,(gn:Int),n,m,o,p⟩:Se)) rfl ?_;intro W1 b3 e1 B1 K1;have HB:=hide B1;have HG3:Hid (w.heap.size≤b3):=(by show _≤_;omega);have HK:=hide K1;have c0:W1.cell? ⟨b3,0,none⟩=some (.int .i64 k):=fits_cell B1 0 _ rfl;have c1:W1.cell? ⟨b3,1,none⟩=some (.int .i64 (gn:Int)):=fits_cell B1 1 _ rfl;have c4:W1.cell? ⟨b3,4,none⟩=some (.int .i64 o):=fits_cell B1 4 _ rfl;clear e1 B1 K1;refine Stp.go ?_))
 constructor
 go_upto_region 4 with fail
 have HPC:Hid (W1.cell? ⟨wb,1+gn,none⟩=some (P0 y.rp)):=fits_cell ((unhide H).wbk.kept (unhide HK) (by simp)) (1+gn) _ (by rw [Nat.add_comm,List.getElem?_cons_succ,ptrs_at P (unhide HGN),unhide HP];rfl)
 refine wp_region_any mixed (wpAny_tq 8 rfl (by kernel_rfl) [some (P0 wb),some (.pointer (some ⟨b3,1,none⟩)),some (.int .i64 (gn:Int)),some (P0 wb),some (.pointer (some ⟨wb,1,none⟩)),some (.pointer (some ⟨wb,1+gn,none⟩)),some (P0 y.rp),some (P0 y.rp)] rfl (by kernel_rfl) (by kernel_rfl) ?_ ?_)
 · intro i o' hi hsk ho a' w2 hout hin hk2
   replace hk2:Kept [] W1 w2:=ud hk2
   match i,ho,hsk with
   | 0,ho,hsk=>
     cases ho
     exact wp_move (.tmp 0) rfl _ ((ho9 hout 0).trans rfl) (tE rfl)
   | 1,ho,hsk=>
     cases ho
     exact o_fld31_1 (.tmp 3) rfl b3 0 ((ho9 hout 3).trans rfl) (tE rfl)
   | 2,ho,hsk=>
     cases ho
     exact o_load3 (.tmp 22) rfl _ _ (is_tq (hi9 hin 1 22) rfl) (hk2.cell (fits_cell (unhide HB) 1 _ rfl) (by simp)) (tE rfl)
   | 3,ho,hsk=>
     cases ho
     exact o_nil (.tmp 21) rfl _ (is_tq (hi9 hin 0 21) rfl) (tE rfl)
   | 4,ho,hsk=>
     cases ho
     exact o_fld46_1 (.tmp 24) rfl wb 0 (is_tq (hi9 hin 3 24) rfl) (tE rfl)
   | 5,ho,hsk=>
     cases ho
     exact o_idx44 (.tmp 25) (.tmp 23) rfl wb 1 gn (unhide HGN) (is_tq (hi9 hin 4 25) rfl) (is_tq (hi9 hin 2 23) rfl) (tE rfl)
   | 6,ho,hsk=>
     cases ho
     exact o_load43 (.tmp 26) rfl _ _ (is_tq (hi9 hin 5 26) rfl) (hk2.cell (unhide HPC) (by simp)) (tE rfl)
   | 7,ho,hsk=>
     cases ho
     exact wp_assignV (.tmp 27) rfl _ (is_tq (hi9 hin 6 27) rfl) (tE rfl)
 intro w9 hk9
 replace hk9:Kept [] W1 w9:=ud hk9
 simp only [valsQ,List.map_cons,List.map_nil,Option.getD_some,List.take_succ_cons,List.take_zero,putAll,Act.put,List.setIfInBounds_toArray,List.set_cons_succ,List.set_cons_zero]
 refine wpAny_done (by kernel_rfl) ?_ _
 replace HB:=hide ((unhide HB).kept hk9 (by simp))
 replace HK:=hide ((unhide HK).trans hk9)
 have c0:w9.cell? ⟨b3,0,none⟩=some (.int .i64 k):=fits_cell (unhide HB) 0 _ rfl
 have c4:w9.cell? ⟨b3,4,none⟩=some (.int .i64 o):=fits_cell (unhide HB) 4 _ rfl
 clear hk9 HPC
 go_upto_region 6 with fail
 clear c0 c4
 have HRB:Hid (Blk w9 y.rp 80 (y.x.s.abs.C y.rl)):=((unhide H).rk y (prOf_some (unhide HP)).1).1.kept (unhide HK) (by simp)
 go_cut [35] from 30 to 34 (fun x35 wc=>x35= .bool (decide (o= -1))∧wc=w9)
 case first=>
   have c4:w9.cell? ⟨b3,4,none⟩=some (.int .i64 o):=fits_cell (unhide HB) 4 _ rfl
   cases ho:decide (o= -1) with
   | true=>
     have o2:(o == -1)=true:=by simpa using ho
     have HO:=hide ho
     clear ho
     have o1:decide (o= -1)=true:=unhide HO
     go_wp2_with fail
     go_meet
     case rel=>exact ⟨by rw [show decide (o= -1)=true from unhide HO],rfl⟩
   | false=>
     have o2:(o == -1)=false:=by simpa using ho
     have HO:=hide ho
     clear ho
     have o1:decide (o= -1)=false:=unhide HO
     go_wp2_with fail
     go_meet
     case rel=>exact ⟨by rw [show decide (o= -1)=false from unhide HO],rfl⟩
 case rest=>
 obtain⟨hx35,hwc⟩:=hcut
 replace hwc:=hwc.symm
 subst hwc
 rename_i K9 hK9
 refine hK9 _ _ ?_
 clear hK9
 subst hx35
 go_cut [7] from 35 to 54 (fun x7 wc=>x7= .int .i64 (opD (⟨k,(gn:Int),n,m,o,p⟩:Se) y.x.s)∧Hid (Kept [] w9 wc))
 case first=>
   have c0:w9.cell? ⟨b3,0,none⟩=some (.int .i64 k):=fits_cell (unhide HB) 0 _ rfl
   have c2:w9.cell? ⟨b3,2,none⟩=some (.int .i64 n):=fits_cell (unhide HB) 2 _ rfl
   have c39:w9.cell? ⟨y.rp,39,none⟩=some (.int .i64 y.x.s.op):=fits_cell (unhide HRB) 39 _ rfl
   cases ho:decide (o= -1) with
   | true=>
     have HO:=hide (of_decide_eq_true ho)
     clear ho
     by_cases hk5:5≤k
     · have HK5:=hide hk5
       have k1:decide (k≥5)=true:=by simpa using hk5
       clear hk5
       cases hin:isN n with
       | true=>
         obtain⟨nn,rfl⟩:∃j:Nat,n=(j:Int):=⟨n.toNat,by simp [isN] at hin;omega⟩
         have HNN:Hid (nn<8):=by simp [isN] at hin;show _<_;omega
         have HIN:=hide hin
         clear hin
         go_wp2_with (first |(go_at_call 26;refine(in47 (nn:Int) _).mono ?_;rw [show isN (nn:Int)=true from unhide HIN];rintro e W5 ⟨rfl,q9⟩;replace q9:=q9.symm;subst q9;refine Stp.go ?_))
         constructor
         go_upto_region 9 with fail
         clear c0 c2 c39
         refine wp_region_any mixed (wpAny_tq 8 rfl (by kernel_rfl) [some (P0 y.rp),some (.pointer (some ⟨b3,2,none⟩)),some (.int .i64 (nn:Int)),some (P0 y.rp),some (.pointer (some ⟨y.rp,18,none⟩)),some (.pointer (some ⟨y.rp,18+nn,none⟩)),some (.int .i64 (y.x.s.ops nn)),some (.int .i64 (y.x.s.ops nn))] rfl (by kernel_rfl) (by kernel_rfl) ?_ ?_)
         · intro i o' hi hsk ho a' w2 hout hin hk2
           replace hk2:Kept [] w9 w2:=ud hk2
           match i,ho,hsk with
           | 0,ho,hsk=>
             cases ho
             exact wp_move (.tmp 6) rfl _ ((ho9 hout 6).trans rfl) (tE rfl)
           | 1,ho,hsk=>
             cases ho
             exact o_fld31_2 (.tmp 3) rfl b3 0 ((ho9 hout 3).trans rfl) (tE rfl)
           | 2,ho,hsk=>
             cases ho
             exact o_load3 (.tmp 49) rfl _ _ (is_tq (hi9 hin 1 49) rfl) (hk2.cell (fits_cell (unhide HB) 2 _ rfl) (by simp)) (tE rfl)
           | 3,ho,hsk=>
             cases ho
             exact o_nil (.tmp 48) rfl _ (is_tq (hi9 hin 0 48) rfl) (tE rfl)
           | 4,ho,hsk=>
             cases ho
             exact o_fld47_4 (.tmp 51) rfl y.rp 0 18 rfl (is_tq (hi9 hin 3 51) rfl) (tE rfl)
           | 5,ho,hsk=>
             cases ho
             exact o_idx37 (.tmp 52) (.tmp 50) rfl y.rp 18 nn _ (unhide HNN) rfl (is_tq (hi9 hin 4 52) rfl) (is_tq (hi9 hin 2 50) rfl) (tE rfl)
           | 6,ho,hsk=>
             cases ho
             exact o_load2 (.tmp 53) rfl _ _ (is_tq (hi9 hin 5 53) rfl) (hk2.cell (Blk.rops (unhide HRB) (unhide HNN)) (by simp)) (tE rfl)
           | 7,ho,hsk=>
             cases ho
             exact wp_assignV (.tmp 54) rfl _ (is_tq (hi9 hin 6 54) rfl) (tE rfl)
         intro w8 hk8
         replace hk8:Kept [] w9 w8:=ud hk8
         simp only [valsQ,List.map_cons,List.map_nil,Option.getD_some,List.take_succ_cons,List.take_zero,putAll,Act.put,List.setIfInBounds_toArray,List.set_cons_succ,List.set_cons_zero]
         refine wpAny_done (by kernel_rfl) ?_ _
         go_wp2_with fail
         go_meet
         case rel=>
           refine⟨?_,hk8⟩
           have e1:=unhide HO
           have e2:=unhide HK5
           have e3:=unhide HIN
           unfold opD
           rw [if_pos e1,if_pos ⟨e2,e3⟩]
           rfl
       | false=>
         have HIN:=hide hin
         clear hin
         go_wp2_with (first |(go_at_call 26;refine(in47 n _).mono ?_;rw [show isN n=false from unhide HIN];rintro e W5 ⟨rfl,q9⟩;replace q9:=q9.symm;subst q9;refine Stp.go ?_))
         constructor
         go_wp2_with fail
         go_meet
         case rel=>
           refine⟨?_,Kept.refl _ _⟩
           have e1:=unhide HO
           have e3:=unhide HIN
           unfold opD
           rw [if_pos e1,if_neg (fun e=>by have:=e.2;rw [show isN n=false from e3] at this;cases this)]
     · have HK5:=hide hk5
       have k1:decide (k≥5)=false:=by simp;omega
       clear hk5
       go_wp2_with fail
       go_meet
       case rel=>
         refine⟨?_,Kept.refl _ _⟩
         have e1:=unhide HO
         have e2:¬ 5≤k:=by have:=unhide HK5;omega
         unfold opD
         rw [if_pos e1,if_neg (fun e=>e2 e.1)]
   | false=>
     have HO:=hide (of_decide_eq_false ho)
     clear ho
     go_wp2_with fail
     go_meet
     case rel=>
       refine⟨?_,Kept.refl _ _⟩
       have e1:=unhide HO
       unfold opD
       rw [if_neg e1]
 case rest=>
 obtain⟨rfl,HK9⟩:=hcut
 obtain⟨ov,hov⟩:∃v,opD (⟨k,(gn:Int),n,m,o,p⟩:Se) y.x.s=v:=⟨_,rfl⟩
 rw [hov]
 have HOV:=hide hov
 clear hov
 replace HB:=hide ((unhide HB).kept (unhide HK9) (by simp))
 replace HK:=hide ((unhide HK).trans (unhide HK9))
 clear HK9 HRB
 have c0:wc.cell? ⟨b3,0,none⟩=some (.int .i64 k):=fits_cell (unhide HB) 0 _ rfl
 go_upto_block 0 with fail
 clear c0
 go_cut [8,9,10] from 57 to 193 (fun x8 x9 x10 wd=>∃(r:Lo×List Wi×List Od) (P':List Pr),x10= .int .i64 0∧doP (⟨k,(gn:Int),n,m,o,p⟩:Se) y.x.s y.x.q=r∧Rw wd 76 7 x8 r.2.2.length (poC gn r.2.2)∧Rw wd 74 6 x9 r.2.2.length (odC r.2.2)∧Hid (Blk wd b3 31 (Se.C (⟨k,(gn:Int),n,m,o,p⟩:Se)))∧Hid (Wd (A+1) wd wb b mb P')∧Hid (Nx (⟨k,(gn:Int),n,m,o,p⟩:Se) w wd P P'))
 case first=>
   by_cases h1:k=1
   · subst h1
     have HD:=hide ((unhide H).dg.step0 (unhide HK))
     have HDP:Hid (doP (⟨1,(gn:Int),n,m,o,p⟩:Se) y.x.s y.x.q=wantP y.x.s y.x.q n m):=by show _=_;rfl
     have c0:wc.cell? ⟨b3,0,none⟩=some (.int .i64 1):=fits_cell (unhide HB) 0 _ rfl
     go_upto_region 16 with fail
     clear c0
     refine wp_region_any mixed (wpAny_gx 16 rfl (by kernel_rfl) [some (P0 wb),some (P0 wb),some (P0 wb),some (P0 b),some (.pointer (some ⟨b3,1,none⟩)),some (.int .i64 (gn:Int)),some (.pointer (some ⟨b3,2,none⟩)),some (.int .i64 n),some (.pointer (some ⟨b3,3,none⟩)),some (.int .i64 m),none,none,none,none,none,none] rfl (by kernel_rfl) (fun l vs W9=>(SX5 wc (fun v W=>∃u i,v= .tuple #[u,i]∧AskR A wc b mb (P.map Pr.x) (gn:Int) (fun s q=>wantP s q n m) (.returned v) W) 10 11 12 13 14 15) (fun i=>l.getD i false) vs W9) ⟨fun _=>(Kept.refl _ _).drew,fun h9=>by simp at h9,fun x hx h9=>by simp only [List.mem_cons,List.mem_nil_iff,or_false] at hx;rcases hx with rfl | rfl | rfl | rfl | rfl <;> simp at h9⟩ ?_ ?_)
     · intro ix o' hi ho a' w2 l vs hls hlf hJ hout hin hdep hnot
       match ix,ho with
       | 0,ho=>
         cases ho
         have e0:a'.eval (.tmp 0)=P0 wb:=(ho9 hout 0).trans rfl
         exact wp_move (.tmp 0) rfl _ e0 (kp5 hJ rfl (by omega) (by decide))
       | 1,ho=>
         cases ho
         exact o_nil (.tmp 60) rfl _ (hx9 (hi9 hin 0 60) rfl) (kp5 hJ rfl (by omega) (by decide))
       | 2,ho=>
         cases ho
         exact o_fld46_0 (.tmp 61) rfl wb 0 (hx9 (hi9 hin 1 61) rfl) (kp5 hJ rfl (by omega) (by decide))
       | 3,ho=>
         cases ho
         have e0:a'.eval (.tmp 62)=P0 wb:=hx9 (hi9 hin 2 62) rfl
         have hk9:Kept [] wc w2:=hJ.n1 (ho9 hnot 10)
         exact o_load42 (.tmp 62) rfl _ _ e0 (hk9.cell (fits_cell ((unhide H).wbk.kept (unhide HK) (by simp)) 0 _ rfl) (by simp)) (kp5 hJ rfl (by omega) (by decide))
       | 4,ho=>
         cases ho
         have e0:a'.eval (.tmp 3)=P0 b3:=(ho9 hout 3).trans rfl
         exact o_fld31_1 (.tmp 3) rfl b3 0 e0 (kp5 hJ rfl (by omega) (by decide))
       | 5,ho=>
         cases ho
         have e0:a'.eval (.tmp 64)= .pointer (some ⟨b3,1,none⟩):=hx9 (hi9 hin 4 64) rfl
         have hk9:Kept [] wc w2:=hJ.n1 (ho9 hnot 10)
         exact o_load3 (.tmp 64) rfl _ _ e0 (hk9.cell (fits_cell (unhide HB) 1 _ rfl) (by simp)) (kp5 hJ rfl (by omega) (by decide))
       | 6,ho=>
         cases ho
         have e0:a'.eval (.tmp 3)=P0 b3:=(ho9 hout 3).trans rfl
         exact o_fld31_2 (.tmp 3) rfl b3 0 e0 (kp5 hJ rfl (by omega) (by decide))
       | 7,ho=>
         cases ho
         have e0:a'.eval (.tmp 66)= .pointer (some ⟨b3,2,none⟩):=hx9 (hi9 hin 6 66) rfl
         have hk9:Kept [] wc w2:=hJ.n1 (ho9 hnot 10)
         exact o_load3 (.tmp 66) rfl _ _ e0 (hk9.cell (fits_cell (unhide HB) 2 _ rfl) (by simp)) (kp5 hJ rfl (by omega) (by decide))
       | 8,ho=>
         cases ho
         have e0:a'.eval (.tmp 3)=P0 b3:=(ho9 hout 3).trans rfl
         exact o_fld31_3 (.tmp 3) rfl b3 0 e0 (kp5 hJ rfl (by omega) (by decide))
       | 9,ho=>
         cases ho
         have e0:a'.eval (.tmp 68)= .pointer (some ⟨b3,3,none⟩):=hx9 (hi9 hin 8 68) rfl
         have hk9:Kept [] wc w2:=hJ.n1 (ho9 hnot 10)
         exact o_load31 (.tmp 68) rfl _ _ e0 (hk9.cell (fits_cell (unhide HB) 3 _ rfl) (by simp)) (kp5 hJ rfl (by omega) (by decide))
       | 10,ho=>
         cases ho
         have e0:a'.eval (.tmp 63)=P0 b:=hx9 (hi9 hin 3 63) rfl
         have e1:a'.eval (.tmp 65)= .int .i64 (gn:Int):=hx9 (hi9 hin 5 65) rfl
         have e2:a'.eval (.tmp 67)= .int .i64 n:=hx9 (hi9 hin 7 67) rfl
         have e3:a'.eval (.tmp 69)= .int .i64 m:=hx9 (hi9 hin 9 69) rfl
         have hk9:Kept [] wc w2:=hJ.n1 hlf
         refine wp_callF 15 _ _ rfl #[P0 b,.int .i64 (gn:Int),.int .i64 n,.int .i64 m] (by simp [e0,e1,e2,e3]) (cg15 _ _) ((want15 ((unhide HD).step0 hk9) (by omega) (gn:Int) n m).mono ?_)
         intro e w3 h9
         obtain⟨u9,i9,rfl⟩:=h9.two
         exact⟨_,rfl,_,rfl,told_no rfl,nextG (by omega) (SX5.call hJ (by decide) (ho9 hnot 11) (ho9 hnot 12) (ho9 hnot 13) (ho9 hnot 14) (ho9 hnot 15) ⟨u9,i9,rfl,h9.since hk9⟩)⟩
       | 11,ho=>
         cases ho
         have e0:a'.eval (.tmp 70)=vs 10:=(hi9 hin 10 70).1
         have hk:=ho9 hdep 10
         exact wp_move (.tmp 70) rfl _ e0 (nx5 (c:=0) hJ rfl (by omega) (by decide) hk rfl)
       | 12,ho=>
         cases ho
         have e0:a'.eval (.tmp 59)=vs 11:=(hi9 hin 11 59).1
         have hc:=ho9 hdep 11
         obtain⟨hk,hq⟩:=hJ.a (11,0) (by simp) hc
         obtain⟨u9,i9,hu,_⟩:=hJ.n2 hk
         have e1:vs 11= .tuple #[u9,i9]:=hq.trans hu
         exact o_ext0 (.tmp 59) rfl u9 i9 (e0.trans e1) (nx5 (c:=1) hJ rfl (by omega) (by decide) hk (by rw [hu];rfl))
       | 13,ho=>
         cases ho
         have e0:a'.eval (.tmp 59)=vs 11:=(hi9 hin 11 59).1
         have hc:=ho9 hdep 11
         obtain⟨hk,hq⟩:=hJ.a (11,0) (by simp) hc
         obtain⟨u9,i9,hu,_⟩:=hJ.n2 hk
         have e1:vs 11= .tuple #[u9,i9]:=hq.trans hu
         exact o_ext1 (.tmp 59) rfl u9 i9 (e0.trans e1) (nx5 (c:=2) hJ rfl (by omega) (by decide) hk (by rw [hu];rfl))
       | 14,ho=>
         cases ho
         have e0:a'.eval (.tmp 71)=vs 12:=(hi9 hin 12 71).1
         have hc:=ho9 hdep 12
         obtain⟨hk,hq⟩:=hJ.a (12,1) (by simp) hc
         obtain⟨u9,i9,hu,_⟩:=hJ.n2 hk
         exact wp_assignV (.tmp 71) rfl _ e0 (nx5 (c:=1) hJ rfl (by omega) (by decide) hk hq)
       | 15,ho=>
         cases ho
         have e0:a'.eval (.tmp 72)=vs 13:=(hi9 hin 13 72).1
         have hc:=ho9 hdep 13
         obtain⟨hk,hq⟩:=hJ.a (13,2) (by simp) hc
         obtain⟨u9,i9,hu,_⟩:=hJ.n2 hk
         exact wp_assignV (.tmp 72) rfl _ e0 (nx5 (c:=2) hJ rfl (by omega) (by decide) hk hq)
     intro l_ vs4 V4 hl hJ htold
     have t0:vs4 0=P0 wb:=told_is _ (htold 0 (by decide)) rfl
     have t1:vs4 1=P0 wb:=told_is _ (htold 1 (by decide)) rfl
     have t2:vs4 2=P0 wb:=told_is _ (htold 2 (by decide)) rfl
     have t3:vs4 3=P0 b:=told_is _ (htold 3 (by decide)) rfl
     have t4:vs4 4= .pointer (some ⟨b3,1,none⟩):=told_is _ (htold 4 (by decide)) rfl
     have t5:vs4 5= .int .i64 (gn:Int):=told_is _ (htold 5 (by decide)) rfl
     have t6:vs4 6= .pointer (some ⟨b3,2,none⟩):=told_is _ (htold 6 (by decide)) rfl
     have t7:vs4 7= .int .i64 n:=told_is _ (htold 7 (by decide)) rfl
     have t8:vs4 8= .pointer (some ⟨b3,3,none⟩):=told_is _ (htold 8 (by decide)) rfl
     have t9:vs4 9= .int .i64 m:=told_is _ (htold 9 (by decide)) rfl
     obtain⟨u9,i9,hu9,hAsk⟩:=hJ.n2 (hl 10 (by decide))
     have t11:vs4 11= .tuple #[u9,i9]:=(hJ.a (11,0) (by simp) (hl 11 (by decide))).2.trans (by rw [hu9];rfl)
     have t12:vs4 12=u9:=(hJ.a (12,1) (by simp) (hl 12 (by decide))).2.trans (by rw [hu9];rfl)
     have t13:vs4 13=i9:=(hJ.a (13,2) (by simp) (hl 13 (by decide))).2.trans (by rw [hu9];rfl)
     have t14:vs4 14=u9:=(hJ.a (14,1) (by simp) (hl 14 (by decide))).2.trans (by rw [hu9];rfl)
     have t15:vs4 15=i9:=(hJ.a (15,2) (by simp) (hl 15 (by decide))).2.trans (by rw [hu9];rfl)
     rw [show (List.range 16).map vs4= [vs4 0,vs4 1,vs4 2,vs4 3,vs4 4,vs4 5,vs4 6,vs4 7,vs4 8,vs4 9,vs4 10,vs4 11,vs4 12,vs4 13,vs4 14,vs4 15] from rfl]
     rw [hu9] at hAsk
     simp only [hu9,t0,t1,t2,t3,t4,t5,t6,t7,t8,t9,t11,t12,t13,t14,t15,putAll,Act.put,List.setIfInBounds_toArray,List.set_cons_succ,List.set_cons_zero]
     clear t0 t1 t2 t3 t4 t5 t6 t7 t8 t9 t11 t12 t13 t14 t15 htold hJ hl hu9
     have HWc:=hide ((unhide H).step0 (unhide HK))
     obtain⟨rfl,ln,g1,g2,g3,g4,g5⟩:=(unhide HWc).ask hA (unhide HP) hgI hAsk
     have HN9:=hide g1
     have HD4:=hide g2
     have HK4:=hide g3
     have HG4:=hide g4
     have HRS:=hide g5
     have hym:=(prOf_some (unhide HP)).1
     have hlc:=(unhide HWc).dg.lk y.x ((unhide HWc).mem hym)
     have HB4:=hide ((unhide HB).kept g3 (off_cells hlc.blk hlc.row (unhide HB) (by decide) (by decide)))
     have HSIM:=hide (want_sim ((unhide HWc).rk y hym).2.2 hlc.gd.all (m:=n) (md:=m))
     clear hAsk g1 g2 g3 g4 g5 hlc hym
     have c2:V4.cell? ⟨b3,2,none⟩=some (.int .i64 n):=fits_cell (unhide HB4) 2 _ rfl
     have c3:V4.cell? ⟨b3,3,none⟩=some (.int .i64 m):=fits_cell (unhide HB4) 3 _ rfl
     go_wp2_with (first |(go_at_call 27;refine Stp.go ?_))
     constructor
     refine(rwant32 y.x.s.abs y.rl y.rp y.x.q n m _ (unhide HRS)).mono ?_
     rw [(unhide HSIM).1]
     rintro e V5 ⟨u,rl5,rfl,g1,g2,g3,g4,g5⟩
     have HU:=hide g1
     have HB5:=hide ((unhide HB4).kept g4 (off_cells (unhide HRS).blk (unhide HRS).row (unhide HB4) (by decide) (by decide)))
     have HF:=hide ((unhide HWc).fin (x:=⟨1,(gn:Int),n,m,o,p⟩) (unhide HK) (unhide HP) rfl (unhide HDP) (unhide HN9) (unhide HD4) (unhide HK4) (unhide HG4) (unhide HRS) g2 g3 g4 g5 (unhide HSIM).2)
     clear g1 g2 g3 g4 g5 c2 c3
     go_wp2_with fail
     go_meet
     case rel=>exact ⟨_,_,rfl,unhide HDP,(unhide HF).2.2,(unhide HU).row,HB5,(unhide HF).1,(unhide HF).2.1⟩
   by_cases h2:k=2
   · subst h2
     have HD:=hide ((unhide H).dg.step0 (unhide HK))
     have HDP:Hid (doP (⟨2,(gn:Int),n,m,o,p⟩:Se) y.x.s y.x.q=askI3 y.x.s y.x.q n):=by show _=_;rfl
     have c0:wc.cell? ⟨b3,0,none⟩=some (.int .i64 2):=fits_cell (unhide HB) 0 _ rfl
     go_upto_region 20 with fail
     clear c0
     refine wp_region_any mixed (wpAny_gx 14 rfl (by kernel_rfl) [some (P0 wb),some (P0 wb),some (P0 wb),some (P0 b),some (.pointer (some ⟨b3,1,none⟩)),some (.int .i64 (gn:Int)),some (.pointer (some ⟨b3,2,none⟩)),some (.int .i64 n),none,none,none,none,none,none] rfl (by kernel_rfl) (fun l vs W9=>(SX5 wc (fun v W=>∃u i,v= .tuple #[u,i]∧AskR A wc b mb (P.map Pr.x) (gn:Int) (fun s q=>askI3 s q n) (.returned v) W) 8 9 10 11 12 13) (fun i=>l.getD i false) vs W9) ⟨fun _=>(Kept.refl _ _).drew,fun h9=>by simp at h9,fun x hx h9=>by simp only [List.mem_cons,List.mem_nil_iff,or_false] at hx;rcases hx with rfl | rfl | rfl | rfl | rfl <;> simp at h9⟩ ?_ ?_)
     · intro ix o' hi ho a' w2 l vs hls hlf hJ hout hin hdep hnot
       match ix,ho with
       | 0,ho=>
         cases ho
         have e0:a'.eval (.tmp 0)=P0 wb:=(ho9 hout 0).trans rfl
         exact wp_move (.tmp 0) rfl _ e0 (kp5 hJ rfl (by omega) (by decide))
       | 1,ho=>
         cases ho
         exact o_nil (.tmp 84) rfl _ (hx9 (hi9 hin 0 84) rfl) (kp5 hJ rfl (by omega) (by decide))
       | 2,ho=>
         cases ho
         exact o_fld46_0 (.tmp 85) rfl wb 0 (hx9 (hi9 hin 1 85) rfl) (kp5 hJ rfl (by omega) (by decide))
       | 3,ho=>
         cases ho
         have e0:a'.eval (.tmp 86)=P0 wb:=hx9 (hi9 hin 2 86) rfl
         have hk9:Kept [] wc w2:=hJ.n1 (ho9 hnot 8)
         exact o_load42 (.tmp 86) rfl _ _ e0 (hk9.cell (fits_cell ((unhide H).wbk.kept (unhide HK) (by simp)) 0 _ rfl) (by simp)) (kp5 hJ rfl (by omega) (by decide))
       | 4,ho=>
         cases ho
         have e0:a'.eval (.tmp 3)=P0 b3:=(ho9 hout 3).trans rfl
         exact o_fld31_1 (.tmp 3) rfl b3 0 e0 (kp5 hJ rfl (by omega) (by decide))
       | 5,ho=>
         cases ho
         have e0:a'.eval (.tmp 88)= .pointer (some ⟨b3,1,none⟩):=hx9 (hi9 hin 4 88) rfl
         have hk9:Kept [] wc w2:=hJ.n1 (ho9 hnot 8)
         exact o_load3 (.tmp 88) rfl _ _ e0 (hk9.cell (fits_cell (unhide HB) 1 _ rfl) (by simp)) (kp5 hJ rfl (by omega) (by decide))
       | 6,ho=>
         cases ho
         have e0:a'.eval (.tmp 3)=P0 b3:=(ho9 hout 3).trans rfl
         exact o_fld31_2 (.tmp 3) rfl b3 0 e0 (kp5 hJ rfl (by omega) (by decide))
       | 7,ho=>
         cases ho
         have e0:a'.eval (.tmp 90)= .pointer (some ⟨b3,2,none⟩):=hx9 (hi9 hin 6 90) rfl
         have hk9:Kept [] wc w2:=hJ.n1 (ho9 hnot 8)
         exact o_load3 (.tmp 90) rfl _ _ e0 (hk9.cell (fits_cell (unhide HB) 2 _ rfl) (by simp)) (kp5 hJ rfl (by omega) (by decide))
       | 8,ho=>
         cases ho
         have e0:a'.eval (.tmp 87)=P0 b:=hx9 (hi9 hin 3 87) rfl
         have e1:a'.eval (.tmp 89)= .int .i64 (gn:Int):=hx9 (hi9 hin 5 89) rfl
         have e2:a'.eval (.tmp 91)= .int .i64 n:=hx9 (hi9 hin 7 91) rfl
         have hk9:Kept [] wc w2:=hJ.n1 hlf
         refine wp_callF 16 _ _ rfl #[P0 b,.int .i64 (gn:Int),.int .i64 n] (by simp [e0,e1,e2]) (cg16 _ _) ((clean16 ((unhide HD).step0 hk9) (by omega) (gn:Int) n).mono ?_)
         intro e w3 h9
         obtain⟨u9,i9,rfl⟩:=h9.two
         exact⟨_,rfl,_,rfl,told_no rfl,nextG (by omega) (SX5.call hJ (by decide) (ho9 hnot 9) (ho9 hnot 10) (ho9 hnot 11) (ho9 hnot 12) (ho9 hnot 13) ⟨u9,i9,rfl,h9.since hk9⟩)⟩
       | 9,ho=>
         cases ho
         have e0:a'.eval (.tmp 92)=vs 8:=(hi9 hin 8 92).1
         have hk:=ho9 hdep 8
         exact wp_move (.tmp 92) rfl _ e0 (nx5 (c:=0) hJ rfl (by omega) (by decide) hk rfl)
       | 10,ho=>
         cases ho
         have e0:a'.eval (.tmp 83)=vs 9:=(hi9 hin 9 83).1
         have hc:=ho9 hdep 9
         obtain⟨hk,hq⟩:=hJ.a (9,0) (by simp) hc
         obtain⟨u9,i9,hu,_⟩:=hJ.n2 hk
         have e1:vs 9= .tuple #[u9,i9]:=hq.trans hu
         exact o_ext0 (.tmp 83) rfl u9 i9 (e0.trans e1) (nx5 (c:=1) hJ rfl (by omega) (by decide) hk (by rw [hu];rfl))
       | 11,ho=>
         cases ho
         have e0:a'.eval (.tmp 83)=vs 9:=(hi9 hin 9 83).1
         have hc:=ho9 hdep 9
         obtain⟨hk,hq⟩:=hJ.a (9,0) (by simp) hc
         obtain⟨u9,i9,hu,_⟩:=hJ.n2 hk
         have e1:vs 9= .tuple #[u9,i9]:=hq.trans hu
         exact o_ext1 (.tmp 83) rfl u9 i9 (e0.trans e1) (nx5 (c:=2) hJ rfl (by omega) (by decide) hk (by rw [hu];rfl))
       | 12,ho=>
         cases ho
         have e0:a'.eval (.tmp 93)=vs 10:=(hi9 hin 10 93).1
         have hc:=ho9 hdep 10
         obtain⟨hk,hq⟩:=hJ.a (10,1) (by simp) hc
         obtain⟨u9,i9,hu,_⟩:=hJ.n2 hk
         exact wp_assignV (.tmp 93) rfl _ e0 (nx5 (c:=1) hJ rfl (by omega) (by decide) hk hq)
       | 13,ho=>
         cases ho
         have e0:a'.eval (.tmp 94)=vs 11:=(hi9 hin 11 94).1
         have hc:=ho9 hdep 11
         obtain⟨hk,hq⟩:=hJ.a (11,2) (by simp) hc
         obtain⟨u9,i9,hu,_⟩:=hJ.n2 hk
         exact wp_assignV (.tmp 94) rfl _ e0 (nx5 (c:=2) hJ rfl (by omega) (by decide) hk hq)
     intro l_ vs4 V4 hl hJ htold
     have t0:vs4 0=P0 wb:=told_is _ (htold 0 (by decide)) rfl
     have t1:vs4 1=P0 wb:=told_is _ (htold 1 (by decide)) rfl
     have t2:vs4 2=P0 wb:=told_is _ (htold 2 (by decide)) rfl
     have t3:vs4 3=P0 b:=told_is _ (htold 3 (by decide)) rfl
     have t4:vs4 4= .pointer (some ⟨b3,1,none⟩):=told_is _ (htold 4 (by decide)) rfl
     have t5:vs4 5= .int .i64 (gn:Int):=told_is _ (htold 5 (by decide)) rfl
     have t6:vs4 6= .pointer (some ⟨b3,2,none⟩):=told_is _ (htold 6 (by decide)) rfl
     have t7:vs4 7= .int .i64 n:=told_is _ (htold 7 (by decide)) rfl
     obtain⟨u9,i9,hu9,hAsk⟩:=hJ.n2 (hl 8 (by decide))
     have t9:vs4 9= .tuple #[u9,i9]:=(hJ.a (9,0) (by simp) (hl 9 (by decide))).2.trans (by rw [hu9];rfl)
     have t10:vs4 10=u9:=(hJ.a (10,1) (by simp) (hl 10 (by decide))).2.trans (by rw [hu9];rfl)
     have t11:vs4 11=i9:=(hJ.a (11,2) (by simp) (hl 11 (by decide))).2.trans (by rw [hu9];rfl)
     have t12:vs4 12=u9:=(hJ.a (12,1) (by simp) (hl 12 (by decide))).2.trans (by rw [hu9];rfl)
     have t13:vs4 13=i9:=(hJ.a (13,2) (by simp) (hl 13 (by decide))).2.trans (by rw [hu9];rfl)
     rw [show (List.range 14).map vs4= [vs4 0,vs4 1,vs4 2,vs4 3,vs4 4,vs4 5,vs4 6,vs4 7,vs4 8,vs4 9,vs4 10,vs4 11,vs4 12,vs4 13] from rfl]
     rw [hu9] at hAsk
     simp only [hu9,t0,t1,t2,t3,t4,t5,t6,t7,t9,t10,t11,t12,t13,putAll,Act.put,List.setIfInBounds_toArray,List.set_cons_succ,List.set_cons_zero]
     clear t0 t1 t2 t3 t4 t5 t6 t7 t9 t10 t11 t12 t13 htold hJ hl hu9
     have HWc:=hide ((unhide H).step0 (unhide HK))
     obtain⟨rfl,ln,g1,g2,g3,g4,g5⟩:=(unhide HWc).ask hA (unhide HP) hgI hAsk
     have HN9:=hide g1
     have HD4:=hide g2
     have HK4:=hide g3
     have HG4:=hide g4
     have HRS:=hide g5
     have hym:=(prOf_some (unhide HP)).1
     have hlc:=(unhide HWc).dg.lk y.x ((unhide HWc).mem hym)
     have HB4:=hide ((unhide HB).kept g3 (off_cells hlc.blk hlc.row (unhide HB) (by decide) (by decide)))
     have HSIM:=hide (askI_sim ((unhide HWc).rk y hym).2.2 hlc.gd.all (.inr (.inr rfl)) (m:=n))
     clear hAsk g1 g2 g3 g4 g5 hlc hym
     have c2:V4.cell? ⟨b3,2,none⟩=some (.int .i64 n):=fits_cell (unhide HB4) 2 _ rfl
     go_wp2_with (first |(go_at_call 28;refine Stp.go ?_))
     constructor
     refine(rwish33 y.x.s.abs y.rl y.rp y.x.q n 3 _ (unhide HRS) (.inr (.inr rfl))).mono ?_
     rw [(unhide HSIM).1]
     rintro e V5 ⟨u,rl5,rfl,g1,g2,g3,g4,g5⟩
     have HU:=hide g1
     have HB5:=hide ((unhide HB4).kept g4 (off_cells (unhide HRS).blk (unhide HRS).row (unhide HB4) (by decide) (by decide)))
     have HF:=hide ((unhide HWc).fin (x:=⟨2,(gn:Int),n,m,o,p⟩) (unhide HK) (unhide HP) rfl (unhide HDP) (unhide HN9) (unhide HD4) (unhide HK4) (unhide HG4) (unhide HRS) g2 g3 g4 g5 (unhide HSIM).2)
     clear g1 g2 g3 g4 g5 c2
     go_wp2_with fail
     go_meet
     case rel=>exact ⟨_,_,rfl,unhide HDP,(unhide HF).2.2,(unhide HU).row,HB5,(unhide HF).1,(unhide HF).2.1⟩
   by_cases h3:k=3
   · subst h3
     have HD:=hide ((unhide H).dg.step0 (unhide HK))
     have HDP:Hid (doP (⟨3,(gn:Int),n,m,o,p⟩:Se) y.x.s y.x.q=goneP y.x.s y.x.q n ov):=by show _=_;rw [← unhide HOV];rfl
     have c0:wc.cell? ⟨b3,0,none⟩=some (.int .i64 3):=fits_cell (unhide HB) 0 _ rfl
     go_upto_region 24 with fail
     clear c0
     refine wp_region_any mixed (wpAny_gx 15 rfl (by kernel_rfl) [some (P0 wb),some (P0 wb),some (P0 wb),some (P0 b),some (.pointer (some ⟨b3,1,none⟩)),some (.int .i64 (gn:Int)),some (.pointer (some ⟨b3,2,none⟩)),some (.int .i64 n),some (.int .i64 ov),none,none,none,none,none,none] rfl (by kernel_rfl) (fun l vs W9=>(SX5 wc (fun v W=>∃u i,v= .tuple #[u,i]∧AskR A wc b mb (P.map Pr.x) (gn:Int) (fun s q=>goneP s q n ov) (.returned v) W) 9 10 11 12 13 14) (fun i=>l.getD i false) vs W9) ⟨fun _=>(Kept.refl _ _).drew,fun h9=>by simp at h9,fun x hx h9=>by simp only [List.mem_cons,List.mem_nil_iff,or_false] at hx;rcases hx with rfl | rfl | rfl | rfl | rfl <;> simp at h9⟩ ?_ ?_)
     · intro ix o' hi ho a' w2 l vs hls hlf hJ hout hin hdep hnot
       match ix,ho with
       | 0,ho=>
         cases ho
         have e0:a'.eval (.tmp 0)=P0 wb:=(ho9 hout 0).trans rfl
         exact wp_move (.tmp 0) rfl _ e0 (kp5 hJ rfl (by omega) (by decide))
       | 1,ho=>
         cases ho
         exact o_nil (.tmp 105) rfl _ (hx9 (hi9 hin 0 105) rfl) (kp5 hJ rfl (by omega) (by decide))
       | 2,ho=>
         cases ho
         exact o_fld46_0 (.tmp 106) rfl wb 0 (hx9 (hi9 hin 1 106) rfl) (kp5 hJ rfl (by omega) (by decide))
       | 3,ho=>
         cases ho
         have e0:a'.eval (.tmp 107)=P0 wb:=hx9 (hi9 hin 2 107) rfl
         have hk9:Kept [] wc w2:=hJ.n1 (ho9 hnot 9)
         exact o_load42 (.tmp 107) rfl _ _ e0 (hk9.cell (fits_cell ((unhide H).wbk.kept (unhide HK) (by simp)) 0 _ rfl) (by simp)) (kp5 hJ rfl (by omega) (by decide))
       | 4,ho=>
         cases ho
         have e0:a'.eval (.tmp 3)=P0 b3:=(ho9 hout 3).trans rfl
         exact o_fld31_1 (.tmp 3) rfl b3 0 e0 (kp5 hJ rfl (by omega) (by decide))
       | 5,ho=>
         cases ho
         have e0:a'.eval (.tmp 109)= .pointer (some ⟨b3,1,none⟩):=hx9 (hi9 hin 4 109) rfl
         have hk9:Kept [] wc w2:=hJ.n1 (ho9 hnot 9)
         exact o_load3 (.tmp 109) rfl _ _ e0 (hk9.cell (fits_cell (unhide HB) 1 _ rfl) (by simp)) (kp5 hJ rfl (by omega) (by decide))
       | 6,ho=>
         cases ho
         have e0:a'.eval (.tmp 3)=P0 b3:=(ho9 hout 3).trans rfl
         exact o_fld31_2 (.tmp 3) rfl b3 0 e0 (kp5 hJ rfl (by omega) (by decide))
       | 7,ho=>
         cases ho
         have e0:a'.eval (.tmp 111)= .pointer (some ⟨b3,2,none⟩):=hx9 (hi9 hin 6 111) rfl
         have hk9:Kept [] wc w2:=hJ.n1 (ho9 hnot 9)
         exact o_load3 (.tmp 111) rfl _ _ e0 (hk9.cell (fits_cell (unhide HB) 2 _ rfl) (by simp)) (kp5 hJ rfl (by omega) (by decide))
       | 8,ho=>
         cases ho
         have e0:a'.eval (.tmp 7)= .int .i64 ov:=(ho9 hout 7).trans rfl
         exact wp_move (.tmp 7) rfl _ e0 (kp5 hJ rfl (by omega) (by decide))
       | 9,ho=>
         cases ho
         have e0:a'.eval (.tmp 108)=P0 b:=hx9 (hi9 hin 3 108) rfl
         have e1:a'.eval (.tmp 110)= .int .i64 (gn:Int):=hx9 (hi9 hin 5 110) rfl
         have e2:a'.eval (.tmp 112)= .int .i64 n:=hx9 (hi9 hin 7 112) rfl
         have e3:a'.eval (.tmp 113)= .int .i64 ov:=hx9 (hi9 hin 8 113) rfl
         have hk9:Kept [] wc w2:=hJ.n1 hlf
         refine wp_callF 17 _ _ rfl #[P0 b,.int .i64 (gn:Int),.int .i64 n,.int .i64 ov] (by simp [e0,e1,e2,e3]) (cg17 _ _) ((gone17 ((unhide HD).step0 hk9) (by omega) (gn:Int) n ov).mono ?_)
         intro e w3 h9
         obtain⟨u9,i9,rfl⟩:=h9.two
         exact⟨_,rfl,_,rfl,told_no rfl,nextG (by omega) (SX5.call hJ (by decide) (ho9 hnot 10) (ho9 hnot 11) (ho9 hnot 12) (ho9 hnot 13) (ho9 hnot 14) ⟨u9,i9,rfl,h9.since hk9⟩)⟩
       | 10,ho=>
         cases ho
         have e0:a'.eval (.tmp 114)=vs 9:=(hi9 hin 9 114).1
         have hk:=ho9 hdep 9
         exact wp_move (.tmp 114) rfl _ e0 (nx5 (c:=0) hJ rfl (by omega) (by decide) hk rfl)
       | 11,ho=>
         cases ho
         have e0:a'.eval (.tmp 104)=vs 10:=(hi9 hin 10 104).1
         have hc:=ho9 hdep 10
         obtain⟨hk,hq⟩:=hJ.a (10,0) (by simp) hc
         obtain⟨u9,i9,hu,_⟩:=hJ.n2 hk
         have e1:vs 10= .tuple #[u9,i9]:=hq.trans hu
         exact o_ext0 (.tmp 104) rfl u9 i9 (e0.trans e1) (nx5 (c:=1) hJ rfl (by omega) (by decide) hk (by rw [hu];rfl))
       | 12,ho=>
         cases ho
         have e0:a'.eval (.tmp 104)=vs 10:=(hi9 hin 10 104).1
         have hc:=ho9 hdep 10
         obtain⟨hk,hq⟩:=hJ.a (10,0) (by simp) hc
         obtain⟨u9,i9,hu,_⟩:=hJ.n2 hk
         have e1:vs 10= .tuple #[u9,i9]:=hq.trans hu
         exact o_ext1 (.tmp 104) rfl u9 i9 (e0.trans e1) (nx5 (c:=2) hJ rfl (by omega) (by decide) hk (by rw [hu];rfl))
       | 13,ho=>
         cases ho
         have e0:a'.eval (.tmp 115)=vs 11:=(hi9 hin 11 115).1
         have hc:=ho9 hdep 11
         obtain⟨hk,hq⟩:=hJ.a (11,1) (by simp) hc
         obtain⟨u9,i9,hu,_⟩:=hJ.n2 hk
         exact wp_assignV (.tmp 115) rfl _ e0 (nx5 (c:=1) hJ rfl (by omega) (by decide) hk hq)
       | 14,ho=>
         cases ho
         have e0:a'.eval (.tmp 116)=vs 12:=(hi9 hin 12 116).1
         have hc:=ho9 hdep 12
         obtain⟨hk,hq⟩:=hJ.a (12,2) (by simp) hc
         obtain⟨u9,i9,hu,_⟩:=hJ.n2 hk
         exact wp_assignV (.tmp 116) rfl _ e0 (nx5 (c:=2) hJ rfl (by omega) (by decide) hk hq)
     intro l_ vs4 V4 hl hJ htold
     have t0:vs4 0=P0 wb:=told_is _ (htold 0 (by decide)) rfl
     have t1:vs4 1=P0 wb:=told_is _ (htold 1 (by decide)) rfl
     have t2:vs4 2=P0 wb:=told_is _ (htold 2 (by decide)) rfl
     have t3:vs4 3=P0 b:=told_is _ (htold 3 (by decide)) rfl
     have t4:vs4 4= .pointer (some ⟨b3,1,none⟩):=told_is _ (htold 4 (by decide)) rfl
     have t5:vs4 5= .int .i64 (gn:Int):=told_is _ (htold 5 (by decide)) rfl
     have t6:vs4 6= .pointer (some ⟨b3,2,none⟩):=told_is _ (htold 6 (by decide)) rfl
     have t7:vs4 7= .int .i64 n:=told_is _ (htold 7 (by decide)) rfl
     have t8:vs4 8= .int .i64 ov:=told_is _ (htold 8 (by decide)) rfl
     obtain⟨u9,i9,hu9,hAsk⟩:=hJ.n2 (hl 9 (by decide))
     have t10:vs4 10= .tuple #[u9,i9]:=(hJ.a (10,0) (by simp) (hl 10 (by decide))).2.trans (by rw [hu9];rfl)
     have t11:vs4 11=u9:=(hJ.a (11,1) (by simp) (hl 11 (by decide))).2.trans (by rw [hu9];rfl)
     have t12:vs4 12=i9:=(hJ.a (12,2) (by simp) (hl 12 (by decide))).2.trans (by rw [hu9];rfl)
     have t13:vs4 13=u9:=(hJ.a (13,1) (by simp) (hl 13 (by decide))).2.trans (by rw [hu9];rfl)
     have t14:vs4 14=i9:=(hJ.a (14,2) (by simp) (hl 14 (by decide))).2.trans (by rw [hu9];rfl)
     rw [show (List.range 15).map vs4= [vs4 0,vs4 1,vs4 2,vs4 3,vs4 4,vs4 5,vs4 6,vs4 7,vs4 8,vs4 9,vs4 10,vs4 11,vs4 12,vs4 13,vs4 14] from rfl]
     rw [hu9] at hAsk
     simp only [hu9,t0,t1,t2,t3,t4,t5,t6,t7,t8,t10,t11,t12,t13,t14,putAll,Act.put,List.setIfInBounds_toArray,List.set_cons_succ,List.set_cons_zero]
     clear t0 t1 t2 t3 t4 t5 t6 t7 t8 t10 t11 t12 t13 t14 htold hJ hl hu9
     have HWc:=hide ((unhide H).step0 (unhide HK))
     obtain⟨rfl,ln,g1,g2,g3,g4,g5⟩:=(unhide HWc).ask hA (unhide HP) hgI hAsk
     have HN9:=hide g1
     have HD4:=hide g2
     have HK4:=hide g3
     have HG4:=hide g4
     have HRS:=hide g5
     have hym:=(prOf_some (unhide HP)).1
     have hlc:=(unhide HWc).dg.lk y.x ((unhide HWc).mem hym)
     have HB4:=hide ((unhide HB).kept g3 (off_cells hlc.blk hlc.row (unhide HB) (by decide) (by decide)))
     have HSIM:=hide (gone_sim (L:=y.x.q) ((unhide HWc).rk y hym).2.2 (m:=n) (c:=ov))
     clear hAsk g1 g2 g3 g4 g5 hlc hym
     have c2:V4.cell? ⟨b3,2,none⟩=some (.int .i64 n):=fits_cell (unhide HB4) 2 _ rfl
     go_wp2_with (first |(go_at_call 29;refine Stp.go ?_))
     constructor
     refine(rwent34 y.x.s.abs y.rl y.rp y.x.q n ov _ (unhide HRS)).mono ?_
     rw [(unhide HSIM).1]
     rintro e V5 ⟨u,rl5,rfl,g1,g2,g3,g4,g5⟩
     have HU:=hide g1
     have HB5:=hide ((unhide HB4).kept g4 (off_cells (unhide HRS).blk (unhide HRS).row (unhide HB4) (by decide) (by decide)))
     have HF:=hide ((unhide HWc).fin (x:=⟨3,(gn:Int),n,m,o,p⟩) (unhide HK) (unhide HP) rfl (unhide HDP) (unhide HN9) (unhide HD4) (unhide HK4) (unhide HG4) (unhide HRS) g2 g3 g4 g5 (unhide HSIM).2)
     clear g1 g2 g3 g4 g5 c2
     go_wp2_with fail
     go_meet
     case rel=>exact ⟨_,_,rfl,unhide HDP,(unhide HF).2.2,(unhide HU).row,HB5,(unhide HF).1,(unhide HF).2.1⟩
   by_cases h4:k=4
   · subst h4
     have HD:=hide ((unhide H).dg.step0 (unhide HK))
     have HDP:Hid (doP (⟨4,(gn:Int),n,m,o,p⟩:Se) y.x.s y.x.q=gotP y.x.s y.x.q n ov):=by show _=_;rw [← unhide HOV];rfl
     have c0:wc.cell? ⟨b3,0,none⟩=some (.int .i64 4):=fits_cell (unhide HB) 0 _ rfl
     go_upto_region 28 with fail
     clear c0
     refine wp_region_any mixed (wpAny_gx 15 rfl (by kernel_rfl) [some (P0 wb),some (P0 wb),some (P0 wb),some (P0 b),some (.pointer (some ⟨b3,1,none⟩)),some (.int .i64 (gn:Int)),some (.pointer (some ⟨b3,2,none⟩)),some (.int .i64 n),some (.int .i64 ov),none,none,none,none,none,none] rfl (by kernel_rfl) (fun l vs W9=>(SX5 wc (fun v W=>∃u i,v= .tuple #[u,i]∧AskR A wc b mb (P.map Pr.x) (gn:Int) (fun s q=>gotP s q n ov) (.returned v) W) 9 10 11 12 13 14) (fun i=>l.getD i false) vs W9) ⟨fun _=>(Kept.refl _ _).drew,fun h9=>by simp at h9,fun x hx h9=>by simp only [List.mem_cons,List.mem_nil_iff,or_false] at hx;rcases hx with rfl | rfl | rfl | rfl | rfl <;> simp at h9⟩ ?_ ?_)
     · intro ix o' hi ho a' w2 l vs hls hlf hJ hout hin hdep hnot
       match ix,ho with
       | 0,ho=>
         cases ho
         have e0:a'.eval (.tmp 0)=P0 wb:=(ho9 hout 0).trans rfl
         exact wp_move (.tmp 0) rfl _ e0 (kp5 hJ rfl (by omega) (by decide))
       | 1,ho=>
         cases ho
         exact o_nil (.tmp 127) rfl _ (hx9 (hi9 hin 0 127) rfl) (kp5 hJ rfl (by omega) (by decide))
       | 2,ho=>
         cases ho
         exact o_fld46_0 (.tmp 128) rfl wb 0 (hx9 (hi9 hin 1 128) rfl) (kp5 hJ rfl (by omega) (by decide))
       | 3,ho=>
         cases ho
         have e0:a'.eval (.tmp 129)=P0 wb:=hx9 (hi9 hin 2 129) rfl
         have hk9:Kept [] wc w2:=hJ.n1 (ho9 hnot 9)
         exact o_load42 (.tmp 129) rfl _ _ e0 (hk9.cell (fits_cell ((unhide H).wbk.kept (unhide HK) (by simp)) 0 _ rfl) (by simp)) (kp5 hJ rfl (by omega) (by decide))
       | 4,ho=>
         cases ho
         have e0:a'.eval (.tmp 3)=P0 b3:=(ho9 hout 3).trans rfl
         exact o_fld31_1 (.tmp 3) rfl b3 0 e0 (kp5 hJ rfl (by omega) (by decide))
       | 5,ho=>
         cases ho
         have e0:a'.eval (.tmp 131)= .pointer (some ⟨b3,1,none⟩):=hx9 (hi9 hin 4 131) rfl
         have hk9:Kept [] wc w2:=hJ.n1 (ho9 hnot 9)
         exact o_load3 (.tmp 131) rfl _ _ e0 (hk9.cell (fits_cell (unhide HB) 1 _ rfl) (by simp)) (kp5 hJ rfl (by omega) (by decide))
       | 6,ho=>
         cases ho
         have e0:a'.eval (.tmp 3)=P0 b3:=(ho9 hout 3).trans rfl
         exact o_fld31_2 (.tmp 3) rfl b3 0 e0 (kp5 hJ rfl (by omega) (by decide))
       | 7,ho=>
         cases ho
         have e0:a'.eval (.tmp 133)= .pointer (some ⟨b3,2,none⟩):=hx9 (hi9 hin 6 133) rfl
         have hk9:Kept [] wc w2:=hJ.n1 (ho9 hnot 9)
         exact o_load3 (.tmp 133) rfl _ _ e0 (hk9.cell (fits_cell (unhide HB) 2 _ rfl) (by simp)) (kp5 hJ rfl (by omega) (by decide))
       | 8,ho=>
         cases ho
         have e0:a'.eval (.tmp 7)= .int .i64 ov:=(ho9 hout 7).trans rfl
         exact wp_move (.tmp 7) rfl _ e0 (kp5 hJ rfl (by omega) (by decide))
       | 9,ho=>
         cases ho
         have e0:a'.eval (.tmp 130)=P0 b:=hx9 (hi9 hin 3 130) rfl
         have e1:a'.eval (.tmp 132)= .int .i64 (gn:Int):=hx9 (hi9 hin 5 132) rfl
         have e2:a'.eval (.tmp 134)= .int .i64 n:=hx9 (hi9 hin 7 134) rfl
         have e3:a'.eval (.tmp 135)= .int .i64 ov:=hx9 (hi9 hin 8 135) rfl
         have hk9:Kept [] wc w2:=hJ.n1 hlf
         refine wp_callF 18 _ _ rfl #[P0 b,.int .i64 (gn:Int),.int .i64 n,.int .i64 ov] (by simp [e0,e1,e2,e3]) (cg18 _ _) ((got18 ((unhide HD).step0 hk9) (by omega) (gn:Int) n ov).mono ?_)
         intro e w3 h9
         obtain⟨u9,i9,rfl⟩:=h9.two
         exact⟨_,rfl,_,rfl,told_no rfl,nextG (by omega) (SX5.call hJ (by decide) (ho9 hnot 10) (ho9 hnot 11) (ho9 hnot 12) (ho9 hnot 13) (ho9 hnot 14) ⟨u9,i9,rfl,h9.since hk9⟩)⟩
       | 10,ho=>
         cases ho
         have e0:a'.eval (.tmp 136)=vs 9:=(hi9 hin 9 136).1
         have hk:=ho9 hdep 9
         exact wp_move (.tmp 136) rfl _ e0 (nx5 (c:=0) hJ rfl (by omega) (by decide) hk rfl)
       | 11,ho=>
         cases ho
         have e0:a'.eval (.tmp 126)=vs 10:=(hi9 hin 10 126).1
         have hc:=ho9 hdep 10
         obtain⟨hk,hq⟩:=hJ.a (10,0) (by simp) hc
         obtain⟨u9,i9,hu,_⟩:=hJ.n2 hk
         have e1:vs 10= .tuple #[u9,i9]:=hq.trans hu
         exact o_ext0 (.tmp 126) rfl u9 i9 (e0.trans e1) (nx5 (c:=1) hJ rfl (by omega) (by decide) hk (by rw [hu];rfl))
       | 12,ho=>
         cases ho
         have e0:a'.eval (.tmp 126)=vs 10:=(hi9 hin 10 126).1
         have hc:=ho9 hdep 10
         obtain⟨hk,hq⟩:=hJ.a (10,0) (by simp) hc
         obtain⟨u9,i9,hu,_⟩:=hJ.n2 hk
         have e1:vs 10= .tuple #[u9,i9]:=hq.trans hu
         exact o_ext1 (.tmp 126) rfl u9 i9 (e0.trans e1) (nx5 (c:=2) hJ rfl (by omega) (by decide) hk (by rw [hu];rfl))
       | 13,ho=>
         cases ho
         have e0:a'.eval (.tmp 137)=vs 11:=(hi9 hin 11 137).1
         have hc:=ho9 hdep 11
         obtain⟨hk,hq⟩:=hJ.a (11,1) (by simp) hc
         obtain⟨u9,i9,hu,_⟩:=hJ.n2 hk
         exact wp_assignV (.tmp 137) rfl _ e0 (nx5 (c:=1) hJ rfl (by omega) (by decide) hk hq)
       | 14,ho=>
         cases ho
         have e0:a'.eval (.tmp 138)=vs 12:=(hi9 hin 12 138).1
         have hc:=ho9 hdep 12
         obtain⟨hk,hq⟩:=hJ.a (12,2) (by simp) hc
         obtain⟨u9,i9,hu,_⟩:=hJ.n2 hk
         exact wp_assignV (.tmp 138) rfl _ e0 (nx5 (c:=2) hJ rfl (by omega) (by decide) hk hq)
     intro l_ vs4 V4 hl hJ htold
     have t0:vs4 0=P0 wb:=told_is _ (htold 0 (by decide)) rfl
     have t1:vs4 1=P0 wb:=told_is _ (htold 1 (by decide)) rfl
     have t2:vs4 2=P0 wb:=told_is _ (htold 2 (by decide)) rfl
     have t3:vs4 3=P0 b:=told_is _ (htold 3 (by decide)) rfl
     have t4:vs4 4= .pointer (some ⟨b3,1,none⟩):=told_is _ (htold 4 (by decide)) rfl
     have t5:vs4 5= .int .i64 (gn:Int):=told_is _ (htold 5 (by decide)) rfl
     have t6:vs4 6= .pointer (some ⟨b3,2,none⟩):=told_is _ (htold 6 (by decide)) rfl
     have t7:vs4 7= .int .i64 n:=told_is _ (htold 7 (by decide)) rfl
     have t8:vs4 8= .int .i64 ov:=told_is _ (htold 8 (by decide)) rfl
     obtain⟨u9,i9,hu9,hAsk⟩:=hJ.n2 (hl 9 (by decide))
     have t10:vs4 10= .tuple #[u9,i9]:=(hJ.a (10,0) (by simp) (hl 10 (by decide))).2.trans (by rw [hu9];rfl)
     have t11:vs4 11=u9:=(hJ.a (11,1) (by simp) (hl 11 (by decide))).2.trans (by rw [hu9];rfl)
     have t12:vs4 12=i9:=(hJ.a (12,2) (by simp) (hl 12 (by decide))).2.trans (by rw [hu9];rfl)
     have t13:vs4 13=u9:=(hJ.a (13,1) (by simp) (hl 13 (by decide))).2.trans (by rw [hu9];rfl)
     have t14:vs4 14=i9:=(hJ.a (14,2) (by simp) (hl 14 (by decide))).2.trans (by rw [hu9];rfl)
     rw [show (List.range 15).map vs4= [vs4 0,vs4 1,vs4 2,vs4 3,vs4 4,vs4 5,vs4 6,vs4 7,vs4 8,vs4 9,vs4 10,vs4 11,vs4 12,vs4 13,vs4 14] from rfl]
     rw [hu9] at hAsk
     simp only [hu9,t0,t1,t2,t3,t4,t5,t6,t7,t8,t10,t11,t12,t13,t14,putAll,Act.put,List.setIfInBounds_toArray,List.set_cons_succ,List.set_cons_zero]
     clear t0 t1 t2 t3 t4 t5 t6 t7 t8 t10 t11 t12 t13 t14 htold hJ hl hu9
     have HWc:=hide ((unhide H).step0 (unhide HK))
     obtain⟨rfl,ln,g1,g2,g3,g4,g5⟩:=(unhide HWc).ask hA (unhide HP) hgI hAsk
     have HN9:=hide g1
     have HD4:=hide g2
     have HK4:=hide g3
     have HG4:=hide g4
     have HRS:=hide g5
     have hym:=(prOf_some (unhide HP)).1
     have hlc:=(unhide HWc).dg.lk y.x ((unhide HWc).mem hym)
     have HB4:=hide ((unhide HB).kept g3 (off_cells hlc.blk hlc.row (unhide HB) (by decide) (by decide)))
     have HSIM:=hide (got_sim ((unhide HWc).rk y hym).2.2 hlc.gd.all (m:=n) (c:=ov))
     clear hAsk g1 g2 g3 g4 g5 hlc hym
     have c2:V4.cell? ⟨b3,2,none⟩=some (.int .i64 n):=fits_cell (unhide HB4) 2 _ rfl
     go_wp2_with (first |(go_at_call 30;refine Stp.go ?_))
     constructor
     refine(rgot35 y.x.s.abs y.rl y.rp y.x.q n ov _ (unhide HRS)).mono ?_
     rw [(unhide HSIM).1]
     rintro e V5 ⟨u,rl5,rfl,g1,g2,g3,g4,g5⟩
     have HU:=hide g1
     have HB5:=hide ((unhide HB4).kept g4 (off_cells (unhide HRS).blk (unhide HRS).row (unhide HB4) (by decide) (by decide)))
     have HF:=hide ((unhide HWc).fin (x:=⟨4,(gn:Int),n,m,o,p⟩) (unhide HK) (unhide HP) rfl (unhide HDP) (unhide HN9) (unhide HD4) (unhide HK4) (unhide HG4) (unhide HRS) g2 g3 g4 g5 (unhide HSIM).2)
     clear g1 g2 g3 g4 g5 c2
     go_wp2_with fail
     go_meet
     case rel=>exact ⟨_,_,rfl,unhide HDP,(unhide HF).2.2,(unhide HU).row,HB5,(unhide HF).1,(unhide HF).2.1⟩
   by_cases h5:k=5
   · subst h5
     have HD:=hide ((unhide H).dg.step0 (unhide HK))
     have HDP:Hid (doP (⟨5,(gn:Int),n,m,o,p⟩:Se) y.x.s y.x.q=relP y.x.s y.x.q n ov):=by show _=_;rw [← unhide HOV];rfl
     have c0:wc.cell? ⟨b3,0,none⟩=some (.int .i64 5):=fits_cell (unhide HB) 0 _ rfl
     go_upto_region 32 with fail
     clear c0
     refine wp_region_any mixed (wpAny_gx 15 rfl (by kernel_rfl) [some (P0 wb),some (P0 wb),some (P0 wb),some (P0 b),some (.pointer (some ⟨b3,1,none⟩)),some (.int .i64 (gn:Int)),some (.pointer (some ⟨b3,2,none⟩)),some (.int .i64 n),some (.int .i64 ov),none,none,none,none,none,none] rfl (by kernel_rfl) (fun l vs W9=>(SX5 wc (fun v W=>∃u i,v= .tuple #[u,i]∧AskR A wc b mb (P.map Pr.x) (gn:Int) (fun s q=>relP s q n ov) (.returned v) W) 9 10 11 12 13 14) (fun i=>l.getD i false) vs W9) ⟨fun _=>(Kept.refl _ _).drew,fun h9=>by simp at h9,fun x hx h9=>by simp only [List.mem_cons,List.mem_nil_iff,or_false] at hx;rcases hx with rfl | rfl | rfl | rfl | rfl <;> simp at h9⟩ ?_ ?_)
     · intro ix o' hi ho a' w2 l vs hls hlf hJ hout hin hdep hnot
       match ix,ho with
       | 0,ho=>
         cases ho
         have e0:a'.eval (.tmp 0)=P0 wb:=(ho9 hout 0).trans rfl
         exact wp_move (.tmp 0) rfl _ e0 (kp5 hJ rfl (by omega) (by decide))
       | 1,ho=>
         cases ho
         exact o_nil (.tmp 149) rfl _ (hx9 (hi9 hin 0 149) rfl) (kp5 hJ rfl (by omega) (by decide))
       | 2,ho=>
         cases ho
         exact o_fld46_0 (.tmp 150) rfl wb 0 (hx9 (hi9 hin 1 150) rfl) (kp5 hJ rfl (by omega) (by decide))
       | 3,ho=>
         cases ho
         have e0:a'.eval (.tmp 151)=P0 wb:=hx9 (hi9 hin 2 151) rfl
         have hk9:Kept [] wc w2:=hJ.n1 (ho9 hnot 9)
         exact o_load42 (.tmp 151) rfl _ _ e0 (hk9.cell (fits_cell ((unhide H).wbk.kept (unhide HK) (by simp)) 0 _ rfl) (by simp)) (kp5 hJ rfl (by omega) (by decide))
       | 4,ho=>
         cases ho
         have e0:a'.eval (.tmp 3)=P0 b3:=(ho9 hout 3).trans rfl
         exact o_fld31_1 (.tmp 3) rfl b3 0 e0 (kp5 hJ rfl (by omega) (by decide))
       | 5,ho=>
         cases ho
         have e0:a'.eval (.tmp 153)= .pointer (some ⟨b3,1,none⟩):=hx9 (hi9 hin 4 153) rfl
         have hk9:Kept [] wc w2:=hJ.n1 (ho9 hnot 9)
         exact o_load3 (.tmp 153) rfl _ _ e0 (hk9.cell (fits_cell (unhide HB) 1 _ rfl) (by simp)) (kp5 hJ rfl (by omega) (by decide))
       | 6,ho=>
         cases ho
         have e0:a'.eval (.tmp 3)=P0 b3:=(ho9 hout 3).trans rfl
         exact o_fld31_2 (.tmp 3) rfl b3 0 e0 (kp5 hJ rfl (by omega) (by decide))
       | 7,ho=>
         cases ho
         have e0:a'.eval (.tmp 155)= .pointer (some ⟨b3,2,none⟩):=hx9 (hi9 hin 6 155) rfl
         have hk9:Kept [] wc w2:=hJ.n1 (ho9 hnot 9)
         exact o_load3 (.tmp 155) rfl _ _ e0 (hk9.cell (fits_cell (unhide HB) 2 _ rfl) (by simp)) (kp5 hJ rfl (by omega) (by decide))
       | 8,ho=>
         cases ho
         have e0:a'.eval (.tmp 7)= .int .i64 ov:=(ho9 hout 7).trans rfl
         exact wp_move (.tmp 7) rfl _ e0 (kp5 hJ rfl (by omega) (by decide))
       | 9,ho=>
         cases ho
         have e0:a'.eval (.tmp 152)=P0 b:=hx9 (hi9 hin 3 152) rfl
         have e1:a'.eval (.tmp 154)= .int .i64 (gn:Int):=hx9 (hi9 hin 5 154) rfl
         have e2:a'.eval (.tmp 156)= .int .i64 n:=hx9 (hi9 hin 7 156) rfl
         have e3:a'.eval (.tmp 157)= .int .i64 ov:=hx9 (hi9 hin 8 157) rfl
         have hk9:Kept [] wc w2:=hJ.n1 hlf
         refine wp_callF 19 _ _ rfl #[P0 b,.int .i64 (gn:Int),.int .i64 n,.int .i64 ov] (by simp [e0,e1,e2,e3]) (cg19 _ _) ((rel19 ((unhide HD).step0 hk9) (by omega) (gn:Int) n ov).mono ?_)
         intro e w3 h9
         obtain⟨u9,i9,rfl⟩:=h9.two
         exact⟨_,rfl,_,rfl,told_no rfl,nextG (by omega) (SX5.call hJ (by decide) (ho9 hnot 10) (ho9 hnot 11) (ho9 hnot 12) (ho9 hnot 13) (ho9 hnot 14) ⟨u9,i9,rfl,h9.since hk9⟩)⟩
       | 10,ho=>
         cases ho
         have e0:a'.eval (.tmp 158)=vs 9:=(hi9 hin 9 158).1
         have hk:=ho9 hdep 9
         exact wp_move (.tmp 158) rfl _ e0 (nx5 (c:=0) hJ rfl (by omega) (by decide) hk rfl)
       | 11,ho=>
         cases ho
         have e0:a'.eval (.tmp 148)=vs 10:=(hi9 hin 10 148).1
         have hc:=ho9 hdep 10
         obtain⟨hk,hq⟩:=hJ.a (10,0) (by simp) hc
         obtain⟨u9,i9,hu,_⟩:=hJ.n2 hk
         have e1:vs 10= .tuple #[u9,i9]:=hq.trans hu
         exact o_ext0 (.tmp 148) rfl u9 i9 (e0.trans e1) (nx5 (c:=1) hJ rfl (by omega) (by decide) hk (by rw [hu];rfl))
       | 12,ho=>
         cases ho
         have e0:a'.eval (.tmp 148)=vs 10:=(hi9 hin 10 148).1
         have hc:=ho9 hdep 10
         obtain⟨hk,hq⟩:=hJ.a (10,0) (by simp) hc
         obtain⟨u9,i9,hu,_⟩:=hJ.n2 hk
         have e1:vs 10= .tuple #[u9,i9]:=hq.trans hu
         exact o_ext1 (.tmp 148) rfl u9 i9 (e0.trans e1) (nx5 (c:=2) hJ rfl (by omega) (by decide) hk (by rw [hu];rfl))
       | 13,ho=>
         cases ho
         have e0:a'.eval (.tmp 159)=vs 11:=(hi9 hin 11 159).1
         have hc:=ho9 hdep 11
         obtain⟨hk,hq⟩:=hJ.a (11,1) (by simp) hc
         obtain⟨u9,i9,hu,_⟩:=hJ.n2 hk
         exact wp_assignV (.tmp 159) rfl _ e0 (nx5 (c:=1) hJ rfl (by omega) (by decide) hk hq)
       | 14,ho=>
         cases ho
         have e0:a'.eval (.tmp 160)=vs 12:=(hi9 hin 12 160).1
         have hc:=ho9 hdep 12
         obtain⟨hk,hq⟩:=hJ.a (12,2) (by simp) hc
         obtain⟨u9,i9,hu,_⟩:=hJ.n2 hk
         exact wp_assignV (.tmp 160) rfl _ e0 (nx5 (c:=2) hJ rfl (by omega) (by decide) hk hq)
     intro l_ vs4 V4 hl hJ htold
     have t0:vs4 0=P0 wb:=told_is _ (htold 0 (by decide)) rfl
     have t1:vs4 1=P0 wb:=told_is _ (htold 1 (by decide)) rfl
     have t2:vs4 2=P0 wb:=told_is _ (htold 2 (by decide)) rfl
     have t3:vs4 3=P0 b:=told_is _ (htold 3 (by decide)) rfl
     have t4:vs4 4= .pointer (some ⟨b3,1,none⟩):=told_is _ (htold 4 (by decide)) rfl
     have t5:vs4 5= .int .i64 (gn:Int):=told_is _ (htold 5 (by decide)) rfl
     have t6:vs4 6= .pointer (some ⟨b3,2,none⟩):=told_is _ (htold 6 (by decide)) rfl
     have t7:vs4 7= .int .i64 n:=told_is _ (htold 7 (by decide)) rfl
     have t8:vs4 8= .int .i64 ov:=told_is _ (htold 8 (by decide)) rfl
     obtain⟨u9,i9,hu9,hAsk⟩:=hJ.n2 (hl 9 (by decide))
     have t10:vs4 10= .tuple #[u9,i9]:=(hJ.a (10,0) (by simp) (hl 10 (by decide))).2.trans (by rw [hu9];rfl)
     have t11:vs4 11=u9:=(hJ.a (11,1) (by simp) (hl 11 (by decide))).2.trans (by rw [hu9];rfl)
     have t12:vs4 12=i9:=(hJ.a (12,2) (by simp) (hl 12 (by decide))).2.trans (by rw [hu9];rfl)
     have t13:vs4 13=u9:=(hJ.a (13,1) (by simp) (hl 13 (by decide))).2.trans (by rw [hu9];rfl)
     have t14:vs4 14=i9:=(hJ.a (14,2) (by simp) (hl 14 (by decide))).2.trans (by rw [hu9];rfl)
     rw [show (List.range 15).map vs4= [vs4 0,vs4 1,vs4 2,vs4 3,vs4 4,vs4 5,vs4 6,vs4 7,vs4 8,vs4 9,vs4 10,vs4 11,vs4 12,vs4 13,vs4 14] from rfl]
     rw [hu9] at hAsk
     simp only [hu9,t0,t1,t2,t3,t4,t5,t6,t7,t8,t10,t11,t12,t13,t14,putAll,Act.put,List.setIfInBounds_toArray,List.set_cons_succ,List.set_cons_zero]
     clear t0 t1 t2 t3 t4 t5 t6 t7 t8 t10 t11 t12 t13 t14 htold hJ hl hu9
     have HWc:=hide ((unhide H).step0 (unhide HK))
     obtain⟨rfl,ln,g1,g2,g3,g4,g5⟩:=(unhide HWc).ask hA (unhide HP) hgI hAsk
     have HN9:=hide g1
     have HD4:=hide g2
     have HK4:=hide g3
     have HG4:=hide g4
     have HRS:=hide g5
     have hym:=(prOf_some (unhide HP)).1
     have hlc:=(unhide HWc).dg.lk y.x ((unhide HWc).mem hym)
     have HB4:=hide ((unhide HB).kept g3 (off_cells hlc.blk hlc.row (unhide HB) (by decide) (by decide)))
     have HSIM:=hide (rel_sim ((unhide HWc).rk y hym).2.2 hlc.gd.all (m:=n) (c:=ov))
     clear hAsk g1 g2 g3 g4 g5 hlc hym
     have c2:V4.cell? ⟨b3,2,none⟩=some (.int .i64 n):=fits_cell (unhide HB4) 2 _ rfl
     go_wp2_with (first |(go_at_call 31;refine Stp.go ?_))
     constructor
     refine(rrel37 y.x.s.abs y.rl y.rp y.x.q n ov _ (unhide HRS)).mono ?_
     rw [(unhide HSIM).1]
     rintro e V5 ⟨u,rl5,rfl,g1,g2,g3,g4,g5⟩
     have HU:=hide g1
     have HB5:=hide ((unhide HB4).kept g4 (off_cells (unhide HRS).blk (unhide HRS).row (unhide HB4) (by decide) (by decide)))
     have HF:=hide ((unhide HWc).fin (x:=⟨5,(gn:Int),n,m,o,p⟩) (unhide HK) (unhide HP) rfl (unhide HDP) (unhide HN9) (unhide HD4) (unhide HK4) (unhide HG4) (unhide HRS) g2 g3 g4 g5 (unhide HSIM).2)
     clear g1 g2 g3 g4 g5 c2
     go_wp2_with fail
     go_meet
     case rel=>exact ⟨_,_,rfl,unhide HDP,(unhide HF).2.2,(unhide HU).row,HB5,(unhide HF).1,(unhide HF).2.1⟩
   by_cases h6:k=6
   · subst h6
     have HD:=hide ((unhide H).dg.step0 (unhide HK))
     have HDP:Hid (doP (⟨6,(gn:Int),n,m,o,p⟩:Se) y.x.s y.x.q=wroteP y.x.s y.x.q n ov p):=by show _=_;rw [← unhide HOV];rfl
     have c0:wc.cell? ⟨b3,0,none⟩=some (.int .i64 6):=fits_cell (unhide HB) 0 _ rfl
     go_upto_region 36 with fail
     clear c0
     refine wp_region_any mixed (wpAny_gx 17 rfl (by kernel_rfl) [some (P0 wb),some (P0 wb),some (P0 wb),some (P0 b),some (.pointer (some ⟨b3,1,none⟩)),some (.int .i64 (gn:Int)),some (.pointer (some ⟨b3,2,none⟩)),some (.int .i64 n),some (.int .i64 ov),some (.pointer (some ⟨b3,5,none⟩)),some (.int .i64 p),none,none,none,none,none,none] rfl (by kernel_rfl) (fun l vs W9=>(SX5 wc (fun v W=>∃u i,v= .tuple #[u,i]∧AskR A wc b mb (P.map Pr.x) (gn:Int) (fun s q=>wroteP s q n ov p) (.returned v) W) 11 12 13 14 15 16) (fun i=>l.getD i false) vs W9) ⟨fun _=>(Kept.refl _ _).drew,fun h9=>by simp at h9,fun x hx h9=>by simp only [List.mem_cons,List.mem_nil_iff,or_false] at hx;rcases hx with rfl | rfl | rfl | rfl | rfl <;> simp at h9⟩ ?_ ?_)
     · intro ix o' hi ho a' w2 l vs hls hlf hJ hout hin hdep hnot
       match ix,ho with
       | 0,ho=>
         cases ho
         have e0:a'.eval (.tmp 0)=P0 wb:=(ho9 hout 0).trans rfl
         exact wp_move (.tmp 0) rfl _ e0 (kp5 hJ rfl (by omega) (by decide))
       | 1,ho=>
         cases ho
         exact o_nil (.tmp 171) rfl _ (hx9 (hi9 hin 0 171) rfl) (kp5 hJ rfl (by omega) (by decide))
       | 2,ho=>
         cases ho
         exact o_fld46_0 (.tmp 172) rfl wb 0 (hx9 (hi9 hin 1 172) rfl) (kp5 hJ rfl (by omega) (by decide))
       | 3,ho=>
         cases ho
         have e0:a'.eval (.tmp 173)=P0 wb:=hx9 (hi9 hin 2 173) rfl
         have hk9:Kept [] wc w2:=hJ.n1 (ho9 hnot 11)
         exact o_load42 (.tmp 173) rfl _ _ e0 (hk9.cell (fits_cell ((unhide H).wbk.kept (unhide HK) (by simp)) 0 _ rfl) (by simp)) (kp5 hJ rfl (by omega) (by decide))
       | 4,ho=>
         cases ho
         have e0:a'.eval (.tmp 3)=P0 b3:=(ho9 hout 3).trans rfl
         exact o_fld31_1 (.tmp 3) rfl b3 0 e0 (kp5 hJ rfl (by omega) (by decide))
       | 5,ho=>
         cases ho
         have e0:a'.eval (.tmp 175)= .pointer (some ⟨b3,1,none⟩):=hx9 (hi9 hin 4 175) rfl
         have hk9:Kept [] wc w2:=hJ.n1 (ho9 hnot 11)
         exact o_load3 (.tmp 175) rfl _ _ e0 (hk9.cell (fits_cell (unhide HB) 1 _ rfl) (by simp)) (kp5 hJ rfl (by omega) (by decide))
       | 6,ho=>
         cases ho
         have e0:a'.eval (.tmp 3)=P0 b3:=(ho9 hout 3).trans rfl
         exact o_fld31_2 (.tmp 3) rfl b3 0 e0 (kp5 hJ rfl (by omega) (by decide))
       | 7,ho=>
         cases ho
         have e0:a'.eval (.tmp 177)= .pointer (some ⟨b3,2,none⟩):=hx9 (hi9 hin 6 177) rfl
         have hk9:Kept [] wc w2:=hJ.n1 (ho9 hnot 11)
         exact o_load3 (.tmp 177) rfl _ _ e0 (hk9.cell (fits_cell (unhide HB) 2 _ rfl) (by simp)) (kp5 hJ rfl (by omega) (by decide))
       | 8,ho=>
         cases ho
         have e0:a'.eval (.tmp 7)= .int .i64 ov:=(ho9 hout 7).trans rfl
         exact wp_move (.tmp 7) rfl _ e0 (kp5 hJ rfl (by omega) (by decide))
       | 9,ho=>
         cases ho
         have e0:a'.eval (.tmp 3)=P0 b3:=(ho9 hout 3).trans rfl
         exact o_fld31_5 (.tmp 3) rfl b3 0 e0 (kp5 hJ rfl (by omega) (by decide))
       | 10,ho=>
         cases ho
         have e0:a'.eval (.tmp 180)= .pointer (some ⟨b3,5,none⟩):=hx9 (hi9 hin 9 180) rfl
         have hk9:Kept [] wc w2:=hJ.n1 (ho9 hnot 11)
         exact o_load2 (.tmp 180) rfl _ _ e0 (hk9.cell (fits_cell (unhide HB) 5 _ rfl) (by simp)) (kp5 hJ rfl (by omega) (by decide))
       | 11,ho=>
         cases ho
         have e0:a'.eval (.tmp 174)=P0 b:=hx9 (hi9 hin 3 174) rfl
         have e1:a'.eval (.tmp 176)= .int .i64 (gn:Int):=hx9 (hi9 hin 5 176) rfl
         have e2:a'.eval (.tmp 178)= .int .i64 n:=hx9 (hi9 hin 7 178) rfl
         have e3:a'.eval (.tmp 179)= .int .i64 ov:=hx9 (hi9 hin 8 179) rfl
         have e4:a'.eval (.tmp 181)= .int .i64 p:=hx9 (hi9 hin 10 181) rfl
         have hk9:Kept [] wc w2:=hJ.n1 hlf
         refine wp_callF 20 _ _ rfl #[P0 b,.int .i64 (gn:Int),.int .i64 n,.int .i64 ov,.int .i64 p] (by simp [e0,e1,e2,e3,e4]) (cg20 _ _) ((wrote20 ((unhide HD).step0 hk9) (by omega) (gn:Int) n ov p).mono ?_)
         intro e w3 h9
         obtain⟨u9,i9,rfl⟩:=h9.two
         exact⟨_,rfl,_,rfl,told_no rfl,nextG (by omega) (SX5.call hJ (by decide) (ho9 hnot 12) (ho9 hnot 13) (ho9 hnot 14) (ho9 hnot 15) (ho9 hnot 16) ⟨u9,i9,rfl,h9.since hk9⟩)⟩
       | 12,ho=>
         cases ho
         have e0:a'.eval (.tmp 182)=vs 11:=(hi9 hin 11 182).1
         have hk:=ho9 hdep 11
         exact wp_move (.tmp 182) rfl _ e0 (nx5 (c:=0) hJ rfl (by omega) (by decide) hk rfl)
       | 13,ho=>
         cases ho
         have e0:a'.eval (.tmp 170)=vs 12:=(hi9 hin 12 170).1
         have hc:=ho9 hdep 12
         obtain⟨hk,hq⟩:=hJ.a (12,0) (by simp) hc
         obtain⟨u9,i9,hu,_⟩:=hJ.n2 hk
         have e1:vs 12= .tuple #[u9,i9]:=hq.trans hu
         exact o_ext0 (.tmp 170) rfl u9 i9 (e0.trans e1) (nx5 (c:=1) hJ rfl (by omega) (by decide) hk (by rw [hu];rfl))
       | 14,ho=>
         cases ho
         have e0:a'.eval (.tmp 170)=vs 12:=(hi9 hin 12 170).1
         have hc:=ho9 hdep 12
         obtain⟨hk,hq⟩:=hJ.a (12,0) (by simp) hc
         obtain⟨u9,i9,hu,_⟩:=hJ.n2 hk
         have e1:vs 12= .tuple #[u9,i9]:=hq.trans hu
         exact o_ext1 (.tmp 170) rfl u9 i9 (e0.trans e1) (nx5 (c:=2) hJ rfl (by omega) (by decide) hk (by rw [hu];rfl))
       | 15,ho=>
         cases ho
         have e0:a'.eval (.tmp 183)=vs 13:=(hi9 hin 13 183).1
         have hc:=ho9 hdep 13
         obtain⟨hk,hq⟩:=hJ.a (13,1) (by simp) hc
         obtain⟨u9,i9,hu,_⟩:=hJ.n2 hk
         exact wp_assignV (.tmp 183) rfl _ e0 (nx5 (c:=1) hJ rfl (by omega) (by decide) hk hq)
       | 16,ho=>
         cases ho
         have e0:a'.eval (.tmp 184)=vs 14:=(hi9 hin 14 184).1
         have hc:=ho9 hdep 14
         obtain⟨hk,hq⟩:=hJ.a (14,2) (by simp) hc
         obtain⟨u9,i9,hu,_⟩:=hJ.n2 hk
         exact wp_assignV (.tmp 184) rfl _ e0 (nx5 (c:=2) hJ rfl (by omega) (by decide) hk hq)
     intro l_ vs4 V4 hl hJ htold
     have t0:vs4 0=P0 wb:=told_is _ (htold 0 (by decide)) rfl
     have t1:vs4 1=P0 wb:=told_is _ (htold 1 (by decide)) rfl
     have t2:vs4 2=P0 wb:=told_is _ (htold 2 (by decide)) rfl
     have t3:vs4 3=P0 b:=told_is _ (htold 3 (by decide)) rfl
     have t4:vs4 4= .pointer (some ⟨b3,1,none⟩):=told_is _ (htold 4 (by decide)) rfl
     have t5:vs4 5= .int .i64 (gn:Int):=told_is _ (htold 5 (by decide)) rfl
     have t6:vs4 6= .pointer (some ⟨b3,2,none⟩):=told_is _ (htold 6 (by decide)) rfl
     have t7:vs4 7= .int .i64 n:=told_is _ (htold 7 (by decide)) rfl
     have t8:vs4 8= .int .i64 ov:=told_is _ (htold 8 (by decide)) rfl
     have t9:vs4 9= .pointer (some ⟨b3,5,none⟩):=told_is _ (htold 9 (by decide)) rfl
     have t10:vs4 10= .int .i64 p:=told_is _ (htold 10 (by decide)) rfl
     obtain⟨u9,i9,hu9,hAsk⟩:=hJ.n2 (hl 11 (by decide))
     have t12:vs4 12= .tuple #[u9,i9]:=(hJ.a (12,0) (by simp) (hl 12 (by decide))).2.trans (by rw [hu9];rfl)
     have t13:vs4 13=u9:=(hJ.a (13,1) (by simp) (hl 13 (by decide))).2.trans (by rw [hu9];rfl)
     have t14:vs4 14=i9:=(hJ.a (14,2) (by simp) (hl 14 (by decide))).2.trans (by rw [hu9];rfl)
     have t15:vs4 15=u9:=(hJ.a (15,1) (by simp) (hl 15 (by decide))).2.trans (by rw [hu9];rfl)
     have t16:vs4 16=i9:=(hJ.a (16,2) (by simp) (hl 16 (by decide))).2.trans (by rw [hu9];rfl)
     rw [show (List.range 17).map vs4= [vs4 0,vs4 1,vs4 2,vs4 3,vs4 4,vs4 5,vs4 6,vs4 7,vs4 8,vs4 9,vs4 10,vs4 11,vs4 12,vs4 13,vs4 14,vs4 15,vs4 16] from rfl]
     rw [hu9] at hAsk
     simp only [hu9,t0,t1,t2,t3,t4,t5,t6,t7,t8,t9,t10,t12,t13,t14,t15,t16,putAll,Act.put,List.setIfInBounds_toArray,List.set_cons_succ,List.set_cons_zero]
     clear t0 t1 t2 t3 t4 t5 t6 t7 t8 t9 t10 t12 t13 t14 t15 t16 htold hJ hl hu9
     have HWc:=hide ((unhide H).step0 (unhide HK))
     obtain⟨rfl,ln,g1,g2,g3,g4,g5⟩:=(unhide HWc).ask hA (unhide HP) hgI hAsk
     have HN9:=hide g1
     have HD4:=hide g2
     have HK4:=hide g3
     have HG4:=hide g4
     have HRS:=hide g5
     have hym:=(prOf_some (unhide HP)).1
     have hlc:=(unhide HWc).dg.lk y.x ((unhide HWc).mem hym)
     have HB4:=hide ((unhide HB).kept g3 (off_cells hlc.blk hlc.row (unhide HB) (by decide) (by decide)))
     have HSIM:=hide (wrote_sim ((unhide HWc).rk y hym).2.2 hlc.gd.all (m:=n) (c:=ov) (p:=p))
     clear hAsk g1 g2 g3 g4 g5 hlc hym
     have c2:V4.cell? ⟨b3,2,none⟩=some (.int .i64 n):=fits_cell (unhide HB4) 2 _ rfl
     have c5:V4.cell? ⟨b3,5,none⟩=some (.int .i64 p):=fits_cell (unhide HB4) 5 _ rfl
     go_wp2_with (first |(go_at_call 32;refine Stp.go ?_))
     constructor
     refine(rwrote38 y.x.s.abs y.rl y.rp y.x.q n ov p _ (unhide HRS)).mono ?_
     rw [(unhide HSIM).1]
     rintro e V5 ⟨u,rl5,rfl,g1,g2,g3,g4,g5⟩
     have HU:=hide g1
     have HB5:=hide ((unhide HB4).kept g4 (off_cells (unhide HRS).blk (unhide HRS).row (unhide HB4) (by decide) (by decide)))
     have HF:=hide ((unhide HWc).fin (x:=⟨6,(gn:Int),n,m,o,p⟩) (unhide HK) (unhide HP) rfl (unhide HDP) (unhide HN9) (unhide HD4) (unhide HK4) (unhide HG4) (unhide HRS) g2 g3 g4 g5 (unhide HSIM).2)
     clear g1 g2 g3 g4 g5 c2 c5
     go_wp2_with fail
     go_meet
     case rel=>exact ⟨_,_,rfl,unhide HDP,(unhide HF).2.2,(unhide HU).row,HB5,(unhide HF).1,(unhide HF).2.1⟩
   have q1:decide (k=1)=false:=by simpa using h1
   have q2:decide (k=2)=false:=by simpa using h2
   have q3:decide (k=3)=false:=by simpa using h3
   have q4:decide (k=4)=false:=by simpa using h4
   have q5:decide (k=5)=false:=by simpa using h5
   have q6:decide (k=6)=false:=by simpa using h6
   have p1:(k == 1)=false:=by simpa using h1
   have p2:(k == 2)=false:=by simpa using h2
   have p3:(k == 3)=false:=by simpa using h3
   have p4:(k == 4)=false:=by simpa using h4
   have p5:(k == 5)=false:=by simpa using h5
   have p6:(k == 6)=false:=by simpa using h6
   have HNO:Hid (∀s q,doP (⟨k,(gn:Int),n,m,o,p⟩:Se) s q=(s,q,[])):=by intro s q;unfold doP;rw [if_neg h1,if_neg h2,if_neg h3,if_neg h4,if_neg h5,if_neg h6]
   clear h1 h2 h3 h4 h5 h6
   have c0:wc.cell? ⟨b3,0,none⟩=some (.int .i64 k):=fits_cell (unhide HB) 0 _ rfl
   go_wp2_with fail
   go_ret
   exact⟨rfl,P,((unhide H).step0 (unhide HK)).mono (by omega),.inl ⟨rfl,unhide HK,fun y' _=>unhide HNO _ _⟩⟩
 case rest=>
 obtain⟨r,P2,rfl,hdp,hv,hu,HB,HW,HN⟩:=hcut
 obtain⟨O,hO⟩:∃O,r.2.2=O:=⟨_,rfl⟩
 rw [hO] at hv hu
 obtain⟨a1,c1,rfl,_,_⟩:=hv.sl
 obtain⟨a2,c2,rfl,_,_⟩:=hu.sl
 have HV:=hide hv
 have HU:=hide hu
 have HOL:Hid (O.length≤1000000000):=by
   have h9:=hv.lie
   show _≤_
   rw [← hO,← hdp]
   exact doP_len _ _ _ _ ((unhide H).dg.lk y.x ((unhide H).mem (prOf_some (unhide HP)).1)).gd.len hA
 clear hv hu hdp hO
 go_wp2_with fail
 go_loopw [11] (fun i wr=>∃j:Nat,j≤O.length∧i= .int .i64 j∧Hid (Kept [] wc wr)) (fun i _=>O.length-(intOf i).toNat)
 case atStart=>exact ⟨0,by omega,rfl,Kept.refl _ _⟩
 case round=>
   obtain⟨j,hj,rfl,HK9⟩:=hrel
   have hol:=unhide HOL
   by_cases hlt:j<O.length
   · have hjI:(j:Int)<O.length:=by omega
     have hd:decide ((j:Int)<O.length)=true:=by simpa using hjI
     have HLT:=hide hlt
     obtain⟨z,hz⟩:∃z,O[j]?=some z:=⟨_,List.getElem?_eq_getElem hlt⟩
     obtain⟨g1,o1,c1',e,hc1,hr1⟩:=Po.get ((unhide HV).kept (unhide HK9) (by simp)) hz
     cases e
     obtain⟨g2,o2,c2',e,hr2⟩:=Os.get ((unhide HU).kept (unhide HK9) (by simp)) hz
     cases e
     have HC1:=hide hc1
     have HR1:=hide hr1
     have HR2:=hide hr2
     have HBR:=hide ((unhide HB).kept (unhide HK9) (by simp))
     clear hc1 hr1 hr2 hz hlt
     go_wp2_with fail
     refine wp_region_any mixed (wpAny_tq 20 rfl (by kernel_rfl) [some (.slice (some ⟨g1,o1,none⟩) O.length c1),some (.int .i64 j),some (.pointer (some ⟨g1,o1+j*7,none⟩)),some (.pointer (some ⟨g1,o1+j*7,none⟩)),some (.int .i64 (gn:Int)),some (.pointer (some ⟨b3,1,none⟩)),some (.int .i64 (gn:Int)),some (.bool false),some (.bool false),some (.slice (some ⟨g1,o1,none⟩) O.length c1),some (.int .i64 j),some (.pointer (some ⟨g1,o1+j*7,none⟩)),some (.pointer (some ⟨g1,o1+j*7+1,none⟩)),some (aggV z.C),some (.slice (some ⟨g2,o2,none⟩) O.length c2),some (.int .i64 j),some (.pointer (some ⟨g2,o2+j*6,none⟩)),some (aggV z.C),some (.bool false),some (.bool false)] rfl (by kernel_rfl) (by kernel_rfl) ?_ ?_)
     · intro i o' hi hsk ho a' w2 hout hin hk2
       replace hk2:Kept [] wr w2:=ud hk2
       match i,ho,hsk with
       | 0,ho,hsk=>
         cases ho
         exact wp_move (.tmp 8) rfl _ ((ho9 hout 8).trans rfl) (tE rfl)
       | 1,ho,hsk=>
         cases ho
         exact wp_move (.tmp 11) rfl _ ((ho9 hout 11).trans rfl) (tE rfl)
       | 2,ho,hsk=>
         cases ho
         exact o_idx57 (.tmp 227) (.tmp 228) rfl g1 o1 O.length c1 j (unhide HLT) (is_tq (hi9 hin 0 227) rfl) (is_tq (hi9 hin 1 228) rfl) (tE rfl)
       | 3,ho,hsk=>
         cases ho
         exact o_fld76_0 (.tmp 229) rfl g1 _ (is_tq (hi9 hin 2 229) rfl) (tE rfl)
       | 4,ho,hsk=>
         cases ho
         exact o_load3 (.tmp 230) rfl _ _ (is_tq (hi9 hin 3 230) rfl) (hk2.cell (unhide HC1) (by simp)) (tE rfl)
       | 5,ho,hsk=>
         cases ho
         exact o_fld31_1 (.tmp 3) rfl b3 0 ((ho9 hout 3).trans rfl) (tE rfl)
       | 6,ho,hsk=>
         cases ho
         exact o_load3 (.tmp 232) rfl _ _ (is_tq (hi9 hin 5 232) rfl) (hk2.cell (fits_cell (unhide HBR) 1 _ rfl) (by simp)) (tE rfl)
       | 7,ho,hsk=>
         cases ho
         exact c_neq3 (.tmp 231) (.tmp 233) rfl _ _ true (decide_eq_true rfl) (is_tq (hi9 hin 4 231) rfl) (is_tq (hi9 hin 6 233) rfl) (tE rfl)
       | 8,ho,hsk=>
         cases ho
         exact wp_move (.tmp 234) rfl _ (is_tq (hi9 hin 7 234) rfl) (tE rfl)
       | 9,ho,hsk=>
         cases ho
         exact wp_move (.tmp 8) rfl _ ((ho9 hout 8).trans rfl) (tE rfl)
       | 10,ho,hsk=>
         cases ho
         exact wp_move (.tmp 11) rfl _ ((ho9 hout 11).trans rfl) (tE rfl)
       | 11,ho,hsk=>
         cases ho
         exact o_idx57 (.tmp 236) (.tmp 237) rfl g1 o1 O.length c1 j (unhide HLT) (is_tq (hi9 hin 9 236) rfl) (is_tq (hi9 hin 10 237) rfl) (tE rfl)
       | 12,ho,hsk=>
         cases ho
         exact o_fld76_1 (.tmp 238) rfl g1 _ (is_tq (hi9 hin 11 238) rfl) (tE rfl)
       | 13,ho,hsk=>
         cases ho
         exact wp_loadA row65 (.tmp 239) rfl g1 (o1+j*7+1) (is_tq (hi9 hin 12 239) rfl) z.C rfl (fun k u hu=>hk2.cell (unhide HR1 k u hu) (by simp)) (tE rfl)
       | 14,ho,hsk=>
         cases ho
         exact wp_move (.tmp 9) rfl _ ((ho9 hout 9).trans rfl) (tE rfl)
       | 15,ho,hsk=>
         cases ho
         exact wp_move (.tmp 11) rfl _ ((ho9 hout 11).trans rfl) (tE rfl)
       | 16,ho,hsk=>
         cases ho
         exact o_idx28n (.tmp 241) (.tmp 242) rfl g2 o2 O.length c2 j (unhide HLT) (is_tq (hi9 hin 14 241) rfl) (is_tq (hi9 hin 15 242) rfl) (tE rfl)
       | 17,ho,hsk=>
         cases ho
         exact wp_loadA row65 (.tmp 243) rfl g2 (o2+j*6) (is_tq (hi9 hin 16 243) rfl) z.C rfl (fun k u hu=>hk2.cell (unhide HR2 k u hu) (by simp)) (tE rfl)
       | 18,ho,hsk=>
         cases ho
         exact o_neqA 74 74 guard65 (.tmp 240) (.tmp 244) rfl z.C z.C (is_tq (hi9 hin 13 240) rfl) (is_tq (hi9 hin 17 244) rfl) true (eqOd74 _ z) (tE rfl)
       | 19,ho,hsk=>
         cases ho
         exact o_pickOr0 (.tmp 235) (.tmp 245) rfl _ (is_tq (hi9 hin 8 235) rfl) (is_tq (hi9 hin 18 245) rfl) (tE rfl)
     intro w8 hk8
     replace hk8:Kept [] wr w8:=ud hk8
     simp only [valsQ,List.map_cons,List.map_nil,Option.getD_some,List.take_succ_cons,List.take_zero,putAll,Act.put,List.setIfInBounds_toArray,List.set_cons_succ,List.set_cons_zero]
     refine wpAny_done (by kernel_rfl) ?_ _
     go_wp2_with fail
     go_roundw
     case rel=>exact ⟨j+1,by have:=unhide HLT;omega,by go_num,(unhide HK9).trans hk8⟩
     case measure=>have:=unhide HLT;simp [intOf];omega
   · have hd:decide ((j:Int)<O.length)=false:=by simp;omega
     go_wp2_with fail
     go_ret
     exact⟨rfl,P2,(unhide HW).step0 (unhide HK9),(unhide HN).step (unhide HK9)⟩
end Go.Proofs.Ytbigongmlpoahaa.D
