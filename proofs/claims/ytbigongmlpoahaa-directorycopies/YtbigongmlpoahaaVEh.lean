import Derived.Test.YtbigongmlpoahaaVEg
import Derived.Test.YtbigongmlpoahaaVDv
namespace Go.Proofs.Ytbigongmlpoahaa.D
set_option maxHeartbeats 16000000
set_option maxRecDepth 100000
set_option linter.unusedSimpArgs false
open Go.RowKit Go.Shelf
theorem cg14 (vs:Array Value) (w:World):(callFunc 14 vs).run Try.prog w= .ok (.enter 14 vs) w:=by kernel_rfl
theorem cg7 (vs:Array Value) (w:World):(callFunc 7 vs).run Try.prog w= .ok (.enter 7 vs) w:=by kernel_rfl
theorem Wd.arr {A:Nat} {W:World} {wb b mb:Nat} {P:List Pr} (h:Wd A W wb b mb P):W.rangeAt wb 1 (ptrs P):=fun j u hu=>fits_cell h.wbk (1+j) _ (by rw [Nat.add_comm,List.getElem?_cons_succ];exact hu)
theorem Wd.c0 {A:Nat} {W:World} {wb b mb:Nat} {P:List Pr} (h:Wd A W wb b mb P):W.cell? ⟨wb,0,none⟩=some (P0 b):=fits_cell h.wbk 0 _ rfl
variable {w:World} {L:List Int} {X:List Se}
theorem copies5 (ao bo:Option Addr) (cp cq:Nat) (x:Se) (h:RowS intC 1 w ao L) (hno:ao=none→L= []∧cp=0) (k:RowS Se.C 6 w bo X):Calls Try.prog 5 #[.slice ao L.length cp,.slice bo X.length cq,aggV x.C] w fun e W=>e= .returned (.bool true)∧Kept [] w W:=by
 have HP:=hide h
 have HNN:=hide hno
 have HX:=hide k
 clear h hno k
 by_cases hL:L.length≤40
 rotate_left
 · have d1:decide ((L.length:Int)>40)=true:=by simp;omega
   go_enter Try.func5,Try.ntmps5
   go_wp2_with (first |(refine wpBoxV rfl (.tmp 2) rfl x.C rfl ?_;intro W1 b5 e1 B1 K1;have HB:=hide B1;have HK:=hide K1;have HG5:Hid (w.heap.size≤b5):=(by show _≤_;omega);clear e1 B1 K1;refine Stp.go ?_))
   constructor
   go_wp2_with (first |(go_at_call 7;refine Stp.go ?_))
   constructor
   refine(known7 _).mono ?_
   rintro e W9 ⟨rfl,h3⟩
   have HKE:=hide ((unhide HK).trans h3)
   clear h3
   go_wp2_with fail
   go_ret
   exact⟨rfl,unhide HKE⟩
 by_cases hX:X.length≤60
 rotate_left
 · have d1:decide ((L.length:Int)>40)=false:=by simp;omega
   have d2:decide ((X.length:Int)>60)=true:=by simp;omega
   go_enter Try.func5,Try.ntmps5
   go_wp2_with (first |(refine wpBoxV rfl (.tmp 2) rfl x.C rfl ?_;intro W1 b5 e1 B1 K1;have HB:=hide B1;have HK:=hide K1;have HG5:Hid (w.heap.size≤b5):=(by show _≤_;omega);clear e1 B1 K1;refine Stp.go ?_))
   constructor
   go_wp2_with (first |(go_at_call 7;refine Stp.go ?_))
   constructor
   refine(known7 _).mono ?_
   rintro e W9 ⟨rfl,h3⟩
   have HKE:=hide ((unhide HK).trans h3)
   clear h3
   go_wp2_with fail
   go_ret
   exact⟨rfl,unhide HKE⟩
 have d1:decide ((L.length:Int)>40)=false:=by simp;omega
 have d2:decide ((X.length:Int)>60)=false:=by simp;omega
 go_enter Try.func5,Try.ntmps5
 go_wp2_with (first |(refine wpBoxV rfl (.tmp 2) rfl x.C rfl ?_;intro W1 b5 e1 B1 K1;have HB:=hide B1;have HK:=hide K1;have HG5:Hid (w.heap.size≤b5):=(by show _≤_;omega);clear e1 B1 K1;refine Stp.go ?_))
 constructor
 go_wp2_with (first |(go_at_call 8;refine Stp.go ?_))
 constructor
 refine(start8 ao cp ((unhide HP).kept (unhide HK)) (unhide HNN) hL).mono ?_
 rintro e W2 ⟨hk2,⟨hok,wb,b,mb,P,rfl,hwd,hks,hst,how⟩ | ⟨hok,wb,rfl⟩⟩
 rotate_left
 · have HKA:=hide ((unhide HK).trans hk2)
   clear hk2 hok
   go_wp2_with (first |(go_at_call 7;refine Stp.go ?_))
   constructor
   refine(known7 _).mono ?_
   rintro e W9 ⟨rfl,h3⟩
   have HKE:=hide ((unhide HKA).trans h3)
   clear h3
   go_wp2_with fail
   go_ret
   exact⟨rfl,unhide HKE⟩
 have HL:Hid (Lw W1 W2 0 wb b mb P (runT (X.take 0) (newT L))):=⟨hwd,how,hk2,stT_new hks hst⟩
 have HOK:=hide hok
 clear hk2 hok hwd hks hst how
 go_wp2_with fail
 go_loopw [10] (fun i wr=>∃(j:Nat) (P:List Pr),j≤X.length∧i= .int .i64 j∧Hid (Lw W1 wr j wb b mb P (runT (X.take j) (newT L)))) (fun i _=>X.length-(intOf i).toNat)
 case atStart=>exact ⟨0,_,by omega,rfl,HL⟩
 case round=>
   clear HL
   obtain⟨j,P,hj,rfl,HL⟩:=hrel
   by_cases hlt:j<X.length
   · have hd:decide ((j:Int)<(X.length:Int))=true:=by simp;omega
     obtain⟨z,hz⟩:∃z,X[j]?=some z:=⟨_,List.getElem?_eq_getElem hlt⟩
     have HZ:=hide hz
     have HLT:=hide hlt
     clear hz hlt
     go_wp2_with (first |(refine wpIdxS rfl (.tmp 50) (.tmp 51) rfl bo cq X j z rfl rfl ((unhide HX).kept ((unhide HK).trans (unhide HL).k)) (unhide HZ) ?_;intro g9 o9 hr9;have HR9:=hide hr9;clear hr9;refine Stp.go ?_))
     constructor
     go_wp2_with (first |(refine wpLoadA row31 rfl (.tmp 52) rfl g9 o9 rfl z.C rfl (unhide HR9) ?_;refine Stp.go ?_))
     constructor
     go_wp2_with (first |(go_at_call 9;refine Stp.go ?_))
     constructor
     refine(does9 (unhide HL).wd (by have:=unhide HLT;omega) z).mono ?_
     intro e W5 hd9
     obtain⟨rfl,P9,hL9⟩:=(unhide HL).does hd9
     have HL9:=hide hL9
     clear hL9 hd9
     go_wp2_with fail
     go_roundw
     case rel=>exact ⟨j+1,P9,by have:=unhide HLT;omega,by go_num,by rw [runT_succ (unhide HZ)];exact HL9⟩
     case measure=>have:=unhide HLT;simp [intOf];omega
   · obtain rfl:j=X.length:=by omega
     have hd:decide ((X.length:Int)<(X.length:Int))=false:=by simp
     rw [List.take_length] at HL
     obtain⟨V1,hV1⟩:∃V1,V1=wr:=⟨_,rfl⟩
     subst hV1
     go_wp2_with (first |(go_at_call 8;refine Stp.go ?_))
     constructor
     refine(start8 ao cp ((unhide HP).kept ((unhide HK).trans (unhide HL).k)) (unhide HNN) hL).mono ?_
     rintro e V2 ⟨hk2,⟨hok,wb2,b2,mb2,Q,rfl,hwd,hks,hst,how⟩ | ⟨hok,_⟩⟩
     rotate_left
     · rw [unhide HOK] at hok;cases hok
     have HO:Hid (Lw V1 V2 0 wb2 b2 mb2 Q (runT (X.take 0) (newT L))):=⟨hwd,how,hk2,stT_new hks hst⟩
     clear hk2 hok hwd hks hst how HOK
     go_wp2_with fail
     go_loopw [14] (fun i wr=>∃(j:Nat) (Q:List Pr),j≤X.length∧i= .int .i64 j∧Hid (Lw V1 wr j wb2 b2 mb2 Q (runT (X.take j) (newT L)))) (fun i _=>X.length-(intOf i).toNat)
     case atStart=>exact ⟨0,_,by omega,rfl,HO⟩
     case round=>
       clear HO
       obtain⟨j,Q,hj,rfl,HO⟩:=hrel
       by_cases hlt:j<X.length
       · have hd:decide ((j:Int)<(X.length:Int))=true:=by simp;omega
         obtain⟨z,hz⟩:∃z,X[j]?=some z:=⟨_,List.getElem?_eq_getElem hlt⟩
         have HZ:=hide hz
         have HLT:=hide hlt
         clear hz hlt
         go_wp2_with (first |(refine wpIdxS rfl (.tmp 69) (.tmp 70) rfl bo cq X j z rfl rfl ((unhide HX).kept (((unhide HK).trans (unhide HL).k).trans (unhide HO).k)) (unhide HZ) ?_;intro g9 o9 hr9;have HR9:=hide hr9;clear hr9;refine Stp.go ?_))
         constructor
         go_wp2_with (first |(refine wpLoadA row31 rfl (.tmp 71) rfl g9 o9 rfl z.C rfl (unhide HR9) ?_;refine Stp.go ?_))
         constructor
         go_wp2_with (first |(go_at_call 9;refine Stp.go ?_))
         constructor
         refine(does9 (unhide HO).wd (by have:=unhide HLT;omega) z).mono ?_
         intro e W5 hd9
         obtain⟨rfl,P9,hL9⟩:=(unhide HO).does hd9
         have HL9:=hide hL9
         clear hL9 hd9
         go_wp2_with fail
         go_roundw
         case rel=>exact ⟨j+1,P9,by have:=unhide HLT;omega,by go_num,by rw [runT_succ (unhide HZ)];exact HL9⟩
         case measure=>have:=unhide HLT;simp [intOf];omega
       · obtain rfl:j=X.length:=by omega
         have hd:decide ((X.length:Int)<(X.length:Int))=false:=by simp
         rw [List.take_length] at HO
         obtain⟨W3,hW3⟩:∃W3,W3=wr:=⟨_,rfl⟩
         subst hW3
         have HW:=hide ((unhide HL).step0 (unhide HO).k)
         have HWS:Hid (V1.heap.size≤W3.heap.size):=(unhide HO).k.size
         have c0:=(unhide HW).wd.c0
         go_wp2_with (first |(go_at_call 13;refine Stp.go ?_))
         constructor
         clear c0
         refine(copy13 (unhide HW).wd.dg).mono ?_
         rintro e W4 ⟨b3,mb3,C,rfl,hd3,hc3,hb3,hm3,hk3⟩
         have HCQ:Hid (Cq W3 P C):=hc3.cq (unhide HW).wd
         have HAC:Hid (Alike (P.map Pr.x) C):=alike_copy (unhide HW).wd.dg hc3
         have HAO:Hid (Alike (P.map Pr.x) (Q.map Pr.x)):=alike_st (unhide HO).wd ((unhide HW).t.trans (unhide HO).t.symm)
         have HD3:=hide hd3
         have HK3:=hide hk3
         have HB3:Hid (W3.heap.size≤b3∧W3.heap.size≤mb3):=⟨hb3,hm3⟩
         have HW4:=hide ((unhide HW).step0 hk3)
         have HWG:Hid (W1.heap.size≤W3.heap.size):=(unhide HW).k.size
         have HPL:Hid (∀y∈P,y.x.p<W3.heap.size):=fun y hy=>((unhide HW).wd.dg.lk y.x ((unhide HW).wd.mem hy)).blk.lt
         have HQL:Hid (∀y∈Q,y.x.p<W3.heap.size):=fun y hy=>((unhide HO).wd.dg.lk y.x ((unhide HO).wd.mem hy)).blk.lt
         have HRL:Hid (∀y∈P,∀i,y.rl.ownBlock=some i→i<V1.heap.size):=fun y hy i hi=>((unhide HL).wd.rk y hy).2.1.lt hi
         have HCL:Hid (∀c∈C,c.p<W4.heap.size):=fun c hc=>(hd3.lk c hc).blk.lt
         have HSS4:Hid (W3.heap.size≤W4.heap.size):=hk3.size
         have HO4:=hide ((unhide HO).step0 hk3)
         clear hd3 hc3 hb3 hm3 hk3
         go_upto_region 17 with fail
         refine wp_region_any mixed (wpAny_tq 19 rfl (by kernel_rfl) [some (P0 wb),some (P0 wb),some (P0 wb),some (P0 b),some (P0 b3),some (.bool true),some (.bool false),some (.bool false),some (P0 wb),some (P0 wb),some (P0 wb),some (P0 b),some (P0 wb2),some (P0 wb2),some (P0 wb2),some (P0 b2),some (.bool true),some (.bool false),some (.bool false)] rfl (by kernel_rfl) (by kernel_rfl) ?_ ?_)
         · intro i o' hi hsk ho a' w2 hout hin hk2
           replace hk2:Kept [] W4 w2:=ud hk2
           match i,ho,hsk with
           | 0,ho,hsk=>
             cases ho
             exact wp_move (.tmp 7) rfl _ ((hout 7 (by kernel_rfl)).trans rfl) (tE rfl)
           | 1,ho,hsk=>
             cases ho
             exact o_nil (.tmp 79) rfl _ (is_tq (hin 0 79 (by kernel_rfl) (by kernel_rfl)) rfl) (tE rfl)
           | 2,ho,hsk=>
             cases ho
             exact o_fld46_0 (.tmp 80) rfl wb 0 (is_tq (hin 1 80 (by kernel_rfl) (by kernel_rfl)) rfl) (tE rfl)
           | 3,ho,hsk=>
             cases ho
             exact o_load42 (.tmp 81) rfl _ _ (is_tq (hin 2 81 (by kernel_rfl) (by kernel_rfl)) rfl) (hk2.cell (unhide HW4).wd.c0 (by simp)) (tE rfl)
           | 4,ho,hsk=>
             cases ho
             exact wp_move (.tmp 15) rfl _ ((hout 15 (by kernel_rfl)).trans rfl) (tE rfl)
           | 5,ho,hsk=>
             cases ho
             have e0:a'.eval (.tmp 82)=P0 b:=is_tq (hin 3 82 (by kernel_rfl) (by kernel_rfl)) rfl
             have e1:a'.eval (.tmp 83)=P0 b3:=is_tq (hin 4 83 (by kernel_rfl) (by kernel_rfl)) rfl
             refine wp_callF 14 _ _ rfl #[P0 b,P0 b3] (by simp [e0,e1]) (cg14 _ _) ((same14_y ((unhide HW4).wd.dg.step0 hk2) ((unhide HD3).step0 hk2) (unhide HAC) (by omega)).mono ?_)
             rintro e w3 ⟨rfl,hk3⟩
             exact⟨_,rfl,_,rfl,tq_is _ _ _ _ rfl,hk3,fun _ _ _ _ _=>trivial⟩
           | 6,ho,hsk=>
             cases ho
             exact o_not (.tmp 84) rfl true (is_tq (hin 5 84 (by kernel_rfl) (by kernel_rfl)) rfl) (tE rfl)
           | 7,ho,hsk=>
             cases ho
             exact wp_move (.tmp 85) rfl _ (is_tq (hin 6 85 (by kernel_rfl) (by kernel_rfl)) rfl) (tE rfl)
           | 8,ho,hsk=>
             cases ho
             exact wp_move (.tmp 7) rfl _ ((hout 7 (by kernel_rfl)).trans rfl) (tE rfl)
           | 9,ho,hsk=>
             cases ho
             exact o_nil (.tmp 87) rfl _ (is_tq (hin 8 87 (by kernel_rfl) (by kernel_rfl)) rfl) (tE rfl)
           | 10,ho,hsk=>
             cases ho
             exact o_fld46_0 (.tmp 88) rfl wb 0 (is_tq (hin 9 88 (by kernel_rfl) (by kernel_rfl)) rfl) (tE rfl)
           | 11,ho,hsk=>
             cases ho
             exact o_load42 (.tmp 89) rfl _ _ (is_tq (hin 10 89 (by kernel_rfl) (by kernel_rfl)) rfl) (hk2.cell (unhide HW4).wd.c0 (by simp)) (tE rfl)
           | 12,ho,hsk=>
             cases ho
             exact wp_move (.tmp 11) rfl _ ((hout 11 (by kernel_rfl)).trans rfl) (tE rfl)
           | 13,ho,hsk=>
             cases ho
             exact o_nil (.tmp 91) rfl _ (is_tq (hin 12 91 (by kernel_rfl) (by kernel_rfl)) rfl) (tE rfl)
           | 14,ho,hsk=>
             cases ho
             exact o_fld46_0 (.tmp 92) rfl wb2 0 (is_tq (hin 13 92 (by kernel_rfl) (by kernel_rfl)) rfl) (tE rfl)
           | 15,ho,hsk=>
             cases ho
             exact o_load42 (.tmp 93) rfl _ _ (is_tq (hin 14 93 (by kernel_rfl) (by kernel_rfl)) rfl) (hk2.cell (unhide HO4).wd.c0 (by simp)) (tE rfl)
           | 16,ho,hsk=>
             cases ho
             have e0:a'.eval (.tmp 90)=P0 b:=is_tq (hin 11 90 (by kernel_rfl) (by kernel_rfl)) rfl
             have e1:a'.eval (.tmp 94)=P0 b2:=is_tq (hin 15 94 (by kernel_rfl) (by kernel_rfl)) rfl
             refine wp_callF 14 _ _ rfl #[P0 b,P0 b2] (by simp [e0,e1]) (cg14 _ _) ((same14_y ((unhide HW4).wd.dg.step0 hk2) ((unhide HO4).wd.dg.step0 hk2) (unhide HAO) (by omega)).mono ?_)
             rintro e w3 ⟨rfl,hk3⟩
             exact⟨_,rfl,_,rfl,tq_is _ _ _ _ rfl,hk3,fun _ _ _ _ _=>trivial⟩
           | 17,ho,hsk=>
             cases ho
             exact o_not (.tmp 95) rfl true (is_tq (hin 16 95 (by kernel_rfl) (by kernel_rfl)) rfl) (tE rfl)
           | 18,ho,hsk=>
             cases ho
             exact o_pickOr0 (.tmp 86) (.tmp 96) rfl _ (is_tq (hin 7 86 (by kernel_rfl) (by kernel_rfl)) rfl) (is_tq (hin 17 96 (by kernel_rfl) (by kernel_rfl)) rfl) (tE rfl)
         intro w6 hk6
         replace hk6:Kept [] W4 w6:=ud hk6
         simp only [valsQ,List.map_cons,List.map_nil,Option.getD_some,List.take_succ_cons,List.take_zero,putAll,Act.put,List.setIfInBounds_toArray,List.set_cons_succ,List.set_cons_zero]
         refine wpAny_done (by kernel_rfl) ?_ _
         have HSS6:Hid (W4.heap.size≤w6.heap.size):=hk6.size
         have HW6:=hide ((unhide HW4).step0 hk6)
         have HO6:=hide ((unhide HO4).step0 hk6)
         have HD6:=hide ((unhide HD3).step0 hk6)
         clear hk6 HW4 HO4 HD3
         go_wp2_with (first |(refine wpLoadA row44 rfl (.tmp 101) rfl wb 1 rfl (ptrs P) (ptrs_len P) (unhide HW6).wd.arr ?_;refine Stp.go ?_))
         constructor
         go_wp2_with (first |(refine wpBuildG #[(0,.tmp 98),(1,.tmp 102)] rfl (by rfl) #[(0,P0 b3),(1,aggV (ptrs P))] (by simp;exact⟨rfl,rfl⟩) (P0 b3::ptrs P) (build46p _ b3 P) ?_;refine Stp.go ?_))
         constructor
         go_wp2_with (first |(refine wpBoxV rfl (.tmp 103) rfl (P0 b3::ptrs P) rfl ?_;intro W7 xb e7 B7 K7;have HXB:=hide B7;have HXG:Hid (w6.heap.size≤xb):=(by show _≤_;omega);have HSS:Hid (W3.heap.size≤W4.heap.size∧W4.heap.size≤w6.heap.size∧w6.heap.size≤W7.heap.size):=⟨unhide HSS4,unhide HSS6,K7.size⟩;have HW7:=hide ((unhide HW6).step0 K7);have HO7:=hide ((unhide HO6).step0 K7);have HD7:=hide ((unhide HD6).step0 K7);clear e7 B7 K7 HW6 HO6 HD6;refine Stp.go ?_))
         constructor
         have c0:=(unhide HW7).wd.c0
         go_wp2_with (first |(go_at_call 13;refine Stp.go ?_))
         constructor
         clear c0
         refine(copy13 (unhide HW7).wd.dg).mono ?_
         rintro e W8 ⟨b4,mb4,C2,rfl,hd4,hc4,hb4,hm4,hk4⟩
         have HAC2:Hid (Alike (P.map Pr.x) C2):=alike_copy (unhide HW7).wd.dg hc4
         have HCQ2:Hid (Cq W7 P C2):=hc4.cq (unhide HW7).wd
         have HD8:=hide hd4
         have HW8:=hide ((unhide HW7).step0 hk4)
         have HO8:=hide ((unhide HO7).step0 hk4)
         have HC8:=hide ((unhide HD7).step0 hk4)
         have HXB8:=hide ((unhide HXB).kept hk4 (by simp))
         have HS78:Hid (W7.heap.size≤W8.heap.size):=hk4.size
         have HS37:Hid (W3.heap.size≤W4.heap.size∧W4.heap.size≤w6.heap.size∧w6.heap.size≤W7.heap.size):=unhide HSS
         clear hd4 hc4 hb4 hm4 hk4 HW7 HO7 HD7 HXB
         have HXW:Hid (Wd X.length W8 xb b3 mb3 (C.map (pick P))):=(unhide HCQ).wd (unhide HW8).wd (unhide HC8) (unhide HXB8)
         have HXL:Hid (Lw W1 W8 X.length xb b3 mb3 (C.map (pick P)) (stT (C.map (pick P)))):=by
           have h1:=(unhide HW8).k.size
           have h2:=(unhide HB3)
           have h3:=(unhide HXG)
           have h4:=unhide HS37
           have h5:=unhide HWG
           refine⟨unhide HXW,⟨by omega,by omega,by omega,fun u hu=> ?_⟩,(unhide HW8).k,rfl⟩
           obtain⟨c,hc,rfl⟩:=List.mem_map.1 hu
           obtain⟨y,hy,e,_,_,_,e4,_,e6⟩:=(unhide HCQ).pk (unhide HW8).wd hc
           have ho:=(unhide HW8).ow.p y hy
           rw [e]
           exact⟨by show _≤c.p;omega,ho.2.1,fun i hi=>ho.2.2.1 i (by rw [← e4];exact hi),ho.2.2.2⟩
         go_wp2_with (first |(refine wpLoadA row31 rfl (.tmp 5) rfl b5 0 rfl x.C rfl ((unhide HB).kept (unhide HW8).k (by simp)).range ?_;refine Stp.go ?_))
         constructor
         go_wp2_with (first |(go_at_call 9;refine Stp.go ?_))
         constructor
         refine(does9 (unhide HXW) (by omega) x).mono ?_
         intro e W9 hd9
         obtain⟨_,P9,hL9⟩:=(unhide HXL).does hd9
         obtain⟨rfl,P10,_,hN9⟩:=hd9
         have HN9:=hide hN9
         have HK9:=hide hL9.k
         clear hN9 hL9
         have hCb:∀c∈C,Blk W8 c.p 108 (c.s.C c.ln)∧Ws W8 c.ln c.q:=fun c hc=>⟨((unhide HC8).lk c hc).blk,((unhide HC8).lk c hc).row⟩
         have hcp:∀c∈C,W3.heap.size≤c.p∧c.p<W4.heap.size:=fun c hc=>⟨((unhide HCQ).all c hc).1,unhide HCL c hc⟩
         have HDW:Hid (Dg X.length W9 b mb (P.map Pr.x)):=(unhide HN9).far (unhide HW8).wd (unhide HCQ) hCb (unhide HW8).wd.dg (fun c hc z hz e=>by
           have h1:=(hcp c hc).1
           obtain⟨y,hy,rfl⟩:=List.mem_map.1 hz
           have h2:=unhide HPL y hy
           omega) (fun y hy z hz i hi e=>by
           obtain⟨u,hu,rfl⟩:=List.mem_map.1 hz
           exact(unhide HW8).wd.ax u hu y hy i hi e)
         have HDB:Hid (Dg X.length W9 b4 mb4 C2):=(unhide HN9).far (unhide HW8).wd (unhide HCQ) hCb (unhide HD8) (fun c hc z hz e=>by
           have h1:=(hcp c hc).2
           have h2:=((unhide HCQ2).all z hz).1
           have h3:=unhide HS37
           omega) (fun y hy z hz i hi e=>by
           obtain⟨_,u,hu,_,_,_,e4,_⟩:=(unhide HCQ2).all z hz
           rw [e4] at hi
           exact(unhide HW8).wd.ax u hu y hy i hi e)
         have HDO:Hid (Dg X.length W9 b2 mb2 (Q.map Pr.x)):=(unhide HN9).far (unhide HW8).wd (unhide HCQ) hCb (unhide HO8).wd.dg (fun c hc z hz e=>by
           have h1:=(hcp c hc).1
           obtain⟨y,hy,rfl⟩:=List.mem_map.1 hz
           have h2:=unhide HQL y hy
           omega) (fun y hy z hz i hi e=>by
           obtain⟨u,hu,rfl⟩:=List.mem_map.1 hz
           have h1:=((unhide HO8).ow.p u hu).2.2.1 i hi
           have h2:=unhide HRL y hy i e
           omega)
         have HB1:Hid (W9.cell? ⟨wb,0,none⟩=some (P0 b)):=fits_cell ((unhide HN9).farB (unhide HW8).wd (unhide HCQ) hCb (unhide HW8).wd.wbk (by decide) (by decide) (by decide)) 0 _ rfl
         have HB2:Hid (W9.cell? ⟨wb2,0,none⟩=some (P0 b2)):=fits_cell ((unhide HN9).farB (unhide HW8).wd (unhide HCQ) hCb (unhide HO8).wd.wbk (by decide) (by decide) (by decide)) 0 _ rfl
         clear hCb hcp
         go_upto_region 23 with fail
         refine wp_region_any mixed (wpAny_tq 21 rfl (by kernel_rfl) [some (P0 wb),some (P0 wb),some (P0 wb),some (P0 b),some (P0 b4),some (.bool true),some (.bool true),some (P0 wb),some (P0 wb),some (P0 wb),some (P0 b),some (P0 wb2),some (P0 wb2),some (P0 wb2),some (P0 b2),some (.bool true),some (.bool true),some (.bool true),some (.bool true),some (.bool true),some (.bool true)] rfl (by kernel_rfl) (by kernel_rfl) ?_ ?_)
         · intro i o' hi hsk ho a' w2 hout hin hk2
           replace hk2:Kept [] W9 w2:=ud hk2
           match i,ho,hsk with
           | 0,ho,hsk=>
             cases ho
             exact wp_move (.tmp 7) rfl _ ((hout 7 (by kernel_rfl)).trans rfl) (tE rfl)
           | 1,ho,hsk=>
             cases ho
             exact o_nil (.tmp 114) rfl _ (is_tq (hin 0 114 (by kernel_rfl) (by kernel_rfl)) rfl) (tE rfl)
           | 2,ho,hsk=>
             cases ho
             exact o_fld46_0 (.tmp 115) rfl wb 0 (is_tq (hin 1 115 (by kernel_rfl) (by kernel_rfl)) rfl) (tE rfl)
           | 3,ho,hsk=>
             cases ho
             exact o_load42 (.tmp 116) rfl _ _ (is_tq (hin 2 116 (by kernel_rfl) (by kernel_rfl)) rfl) (hk2.cell (unhide HB1) (by simp)) (tE rfl)
           | 4,ho,hsk=>
             cases ho
             exact wp_move (.tmp 17) rfl _ ((hout 17 (by kernel_rfl)).trans rfl) (tE rfl)
           | 5,ho,hsk=>
             cases ho
             have e0:a'.eval (.tmp 117)=P0 b:=is_tq (hin 3 117 (by kernel_rfl) (by kernel_rfl)) rfl
             have e1:a'.eval (.tmp 118)=P0 b4:=is_tq (hin 4 118 (by kernel_rfl) (by kernel_rfl)) rfl
             refine wp_callF 14 _ _ rfl #[P0 b,P0 b4] (by simp [e0,e1]) (cg14 _ _) ((same14_y ((unhide HDW).step0 hk2) ((unhide HDB).step0 hk2) (unhide HAC2) (by omega)).mono ?_)
             rintro e w3 ⟨rfl,hk3⟩
             exact⟨_,rfl,_,rfl,tq_is _ _ _ _ rfl,hk3,fun _ _ _ _ _=>trivial⟩
           | 6,ho,hsk=>
             cases ho
             exact wp_move (.tmp 119) rfl _ (is_tq (hin 5 119 (by kernel_rfl) (by kernel_rfl)) rfl) (tE rfl)
           | 7,ho,hsk=>
             cases ho
             exact wp_move (.tmp 7) rfl _ ((hout 7 (by kernel_rfl)).trans rfl) (tE rfl)
           | 8,ho,hsk=>
             cases ho
             exact o_nil (.tmp 121) rfl _ (is_tq (hin 7 121 (by kernel_rfl) (by kernel_rfl)) rfl) (tE rfl)
           | 9,ho,hsk=>
             cases ho
             exact o_fld46_0 (.tmp 122) rfl wb 0 (is_tq (hin 8 122 (by kernel_rfl) (by kernel_rfl)) rfl) (tE rfl)
           | 10,ho,hsk=>
             cases ho
             exact o_load42 (.tmp 123) rfl _ _ (is_tq (hin 9 123 (by kernel_rfl) (by kernel_rfl)) rfl) (hk2.cell (unhide HB1) (by simp)) (tE rfl)
           | 11,ho,hsk=>
             cases ho
             exact wp_move (.tmp 11) rfl _ ((hout 11 (by kernel_rfl)).trans rfl) (tE rfl)
           | 12,ho,hsk=>
             cases ho
             exact o_nil (.tmp 125) rfl _ (is_tq (hin 11 125 (by kernel_rfl) (by kernel_rfl)) rfl) (tE rfl)
           | 13,ho,hsk=>
             cases ho
             exact o_fld46_0 (.tmp 126) rfl wb2 0 (is_tq (hin 12 126 (by kernel_rfl) (by kernel_rfl)) rfl) (tE rfl)
           | 14,ho,hsk=>
             cases ho
             exact o_load42 (.tmp 127) rfl _ _ (is_tq (hin 13 127 (by kernel_rfl) (by kernel_rfl)) rfl) (hk2.cell (unhide HB2) (by simp)) (tE rfl)
           | 15,ho,hsk=>
             cases ho
             have e0:a'.eval (.tmp 124)=P0 b:=is_tq (hin 10 124 (by kernel_rfl) (by kernel_rfl)) rfl
             have e1:a'.eval (.tmp 128)=P0 b2:=is_tq (hin 14 128 (by kernel_rfl) (by kernel_rfl)) rfl
             refine wp_callF 14 _ _ rfl #[P0 b,P0 b2] (by simp [e0,e1]) (cg14 _ _) ((same14_y ((unhide HDW).step0 hk2) ((unhide HDO).step0 hk2) (unhide HAO) (by omega)).mono ?_)
             rintro e w3 ⟨rfl,hk3⟩
             exact⟨_,rfl,_,rfl,tq_is _ _ _ _ rfl,hk3,fun _ _ _ _ _=>trivial⟩
           | 16,ho,hsk=>
             cases ho
             exact o_pick (.tmp 120) (.tmp 129) rfl _ (is_tq (hin 6 120 (by kernel_rfl) (by kernel_rfl)) rfl) (is_tq (hin 15 129 (by kernel_rfl) (by kernel_rfl)) rfl) (tE rfl)
           | 17,ho,hsk=>
             cases ho
             exact wp_move (.tmp 130) rfl _ (is_tq (hin 16 130 (by kernel_rfl) (by kernel_rfl)) rfl) (tE rfl)
           | 18,ho,hsk=>
             cases ho
             refine wp_callF 7 _ _ rfl #[] (by simp) (cg7 _ _) ((known7 _).mono ?_)
             rintro e w3 ⟨rfl,hk3⟩
             exact⟨_,rfl,_,rfl,tq_is _ _ _ _ rfl,hk3,fun _ _ _ _ _=>trivial⟩
           | 19,ho,hsk=>
             cases ho
             exact o_pick (.tmp 131) (.tmp 132) rfl _ (is_tq (hin 17 131 (by kernel_rfl) (by kernel_rfl)) rfl) (is_tq (hin 18 132 (by kernel_rfl) (by kernel_rfl)) rfl) (tE rfl)
           | 20,ho,hsk=>
             cases ho
             exact wp_assignV (.tmp 133) rfl _ (is_tq (hin 19 133 (by kernel_rfl) (by kernel_rfl)) rfl) (tE rfl)
         intro w5 hk5
         replace hk5:Kept [] W9 w5:=ud hk5
         simp only [valsQ,List.map_cons,List.map_nil,Option.getD_some,List.take_succ_cons,List.take_zero,putAll,Act.put,List.setIfInBounds_toArray,List.set_cons_succ,List.set_cons_zero]
         refine wpAny_done (by kernel_rfl) ?_ _
         have HKZ:=hide (((unhide HK).trans (unhide HK9)).trans hk5)
         clear hk5
         go_wp2_with fail
         go_ret
         exact⟨rfl,unhide HKZ⟩
end Go.Proofs.Ytbigongmlpoahaa.D
