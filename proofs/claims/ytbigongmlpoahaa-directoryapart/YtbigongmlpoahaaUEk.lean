import Derived.Test.YtbigongmlpoahaaUFz
namespace Go.Proofs.Ytbigongmlpoahaa.D
set_option maxHeartbeats 16000000
set_option maxRecDepth 100000
set_option linter.unusedSimpArgs false
open Go.RowKit Go.Shelf
theorem cg11 (vs:Array Value) (w:World):(callFunc 11 vs).run Try.prog w= .ok (.enter 11 vs) w:=by kernel_rfl
theorem cg9 (vs:Array Value) (w:World):(callFunc 9 vs).run Try.prog w= .ok (.enter 9 vs) w:=by kernel_rfl
theorem Wd.c0 {A:Nat} {W:World} {wb b mb:Nat} {P:List Pr} (h:Wd A W wb b mb P):W.cell? ⟨wb,0,none⟩=some (P0 b):=fits_cell h.wbk 0 _ rfl
def In (w0 W:World) (m wb b mb:Nat) (Q:List Pr) (T:List (Int×Lo×List Wi)):Prop:=∃A,A≤m∧Lw w0 W A wb b mb Q T
def CZ (V:World) (R:World→Prop) (l:Array Bool) (W:World):Prop:=(l.getD 16 false=false→Kept [] V W)∧(l.getD 16 false=true→R W)
theorem CZ.init {V:World} {R:World→Prop} :CZ V R (Array.replicate 19 false) V.drew:=⟨fun _=>(Kept.refl _ _).drew,fun h=>by simp at h⟩
theorem set_at {l:Array Bool} {i j:Nat} (h:j≠i):(l.setIfInBounds j true).getD i false=l.getD i false:=by
 simp only [Array.getD_eq_getD_getElem?,Array.getElem?_setIfInBounds]
 rw [if_neg h]
theorem CZ.kp {V:World} {R:World→Prop} {l:Array Bool} {W:World} {j:Nat} (h:CZ V R l W) (_:j<l.size) (hj:j≠16):CZ V R (l.setIfInBounds j true) W:=by
 unfold CZ
 rw [set_at hj]
 exact h
theorem CZ.call {V:World} {R:World→Prop} {l:Array Bool} {W W':World} (_:CZ V R l W) (hl:16<l.size) (hR:R W'):CZ V R (l.setIfInBounds 16 true) W':=by
 have e:(l.setIfInBounds 16 true).getD 16 false=true:=by simp [Array.getD_eq_getD_getElem?,Array.getElem?_setIfInBounds,hl]
 exact⟨fun h=>by (rw [e] at h;cases h),fun _=>hR⟩
variable {w:World} {L:List Int} {X:List Se}
theorem apart4 (ao bo:Option Addr) (cp cq:Nat) (h:RowS intC 1 w ao L) (hno:ao=none→L= []∧cp=0) (k:RowS Se.C 6 w bo X):Calls Try.prog 4 #[.slice ao L.length cp,.slice bo X.length cq] w fun e W=>e= .returned (.bool true)∧Kept [] w W:=by
 have HP:=hide h
 have HNN:=hide hno
 have HX:=hide k
 clear h hno k
 by_cases hL:L.length≤40
 rotate_left
 · have d1:decide ((L.length:Int)>40)=true:=by simp;omega
   go_enter Try.func4,Try.ntmps4
   go_wp2_with (first |(go_at_call 7;refine Stp.go ?_))
   constructor
   refine(known7 _).mono ?_
   rintro e W9 ⟨rfl,h3⟩
   have HKE:=hide (h3)
   clear h3
   go_wp2_with fail
   go_ret
   exact⟨rfl,unhide HKE⟩
 by_cases hX:X.length≤100
 rotate_left
 · have d1:decide ((L.length:Int)>40)=false:=by simp;omega
   have d2:decide ((X.length:Int)>100)=true:=by simp;omega
   go_enter Try.func4,Try.ntmps4
   go_wp2_with (first |(go_at_call 7;refine Stp.go ?_))
   constructor
   refine(known7 _).mono ?_
   rintro e W9 ⟨rfl,h3⟩
   have HKE:=hide (h3)
   clear h3
   go_wp2_with fail
   go_ret
   exact⟨rfl,unhide HKE⟩
 have d1:decide ((L.length:Int)>40)=false:=by simp;omega
 have d2:decide ((X.length:Int)>100)=false:=by simp;omega
 go_enter Try.func4,Try.ntmps4
 go_wp2_with (first |(go_at_call 8;refine Stp.go ?_))
 constructor
 refine(start8 ao cp ((unhide HP)) (unhide HNN) hL).mono ?_
 rintro e W2 ⟨hk2,⟨hok,wb,b,mb,P,rfl,hwd,hks,hst,how⟩ | ⟨hok,wb,rfl⟩⟩
 rotate_left
 · have HKA:=hide hk2
   clear hk2 hok
   go_wp2_with (first |(go_at_call 7;refine Stp.go ?_))
   constructor
   refine(known7 _).mono ?_
   rintro e W9 ⟨rfl,h3⟩
   have HKE:=hide ((unhide HKA).trans h3)
   clear h3
   go_wp2_with fail
   go_ret
   exact⟨rfl,unhide HKE⟩
 have HL:Hid (Lw w W2 0 wb b mb P (runT (X.take 0) (newT L))):=⟨hwd,how,hk2,stT_new hks hst⟩
 have HOK:=hide hok
 clear hk2 hok hwd hks hst how
 go_wp2_with fail
 go_loopw [8] (fun i wr=>∃(j:Nat) (P:List Pr),j≤X.length∧i= .int .i64 j∧Hid (Lw w wr j wb b mb P (runT (X.take j) (newT L)))) (fun i _=>X.length-(intOf i).toNat)
 case atStart=>exact ⟨0,_,by omega,rfl,HL⟩
 case round=>
   clear HL
   obtain⟨j,P,hj,rfl,HL⟩:=hrel
   by_cases hlt:j<X.length
   · have hd:decide ((j:Int)<(X.length:Int))=true:=by simp;omega
     obtain⟨z,hz⟩:∃z,X[j]?=some z:=⟨_,List.getElem?_eq_getElem hlt⟩
     have HZ:=hide hz
     have HLT:=hide hlt
     clear hz hlt
     go_wp2_with (first |(refine wpIdxS rfl (.tmp 50) (.tmp 51) rfl bo cq X j z rfl rfl ((unhide HX).kept ((unhide HL).k)) (unhide HZ) ?_;intro g9 o9 hr9;have HR9:=hide hr9;clear hr9;refine Stp.go ?_))
     constructor
     go_wp2_with (first |(refine wpLoadA row31 rfl (.tmp 52) rfl g9 o9 rfl z.C rfl (unhide HR9) ?_;refine Stp.go ?_))
     constructor
     go_wp2_with (first |(go_at_call 9;refine Stp.go ?_))
     constructor
     refine(does9 (unhide HL).wd (by have:=unhide HLT;omega) z).mono ?_
     intro e W5 hd9
     obtain⟨rfl,P9,hL9⟩:=(unhide HL).does hd9
     have HL9:=hide hL9
     clear hL9 hd9
     go_wp2_with fail
     go_roundw
     case rel=>exact ⟨j+1,P9,by have:=unhide HLT;omega,by go_num,by rw [runT_succ (unhide HZ)];exact HL9⟩
     case measure=>have:=unhide HLT;simp [intOf];omega
   · obtain rfl:j=X.length:=by omega
     have hd:decide ((X.length:Int)<(X.length:Int))=false:=by simp
     rw [List.take_length] at HL
     obtain⟨V1,hV1⟩:∃V1,V1=wr:=⟨_,rfl⟩
     subst hV1
     go_wp2_with fail
     go_loopw [9] (fun i V=>∃jj:Nat,jj≤L.length∧i= .int .i64 jj∧Hid (Lw w V X.length wb b mb P (runT X (newT L)))) (fun i _=>L.length-(intOf i).toNat)
     case atStart=>exact ⟨0,by omega,rfl,HL⟩
     case round=>
       clear HL hd
       obtain⟨jj,hj2,rfl,HL⟩:=hrel
       obtain⟨V2,hV2⟩:∃V2,V2=wr:=⟨_,rfl⟩
       subst hV2
       by_cases hlt:jj<L.length
       rotate_left
       · obtain rfl:jj=L.length:=by omega
         have hd:decide ((L.length:Int)<(L.length:Int))=false:=by simp
         go_wp2_with (first |(go_at_call 7;refine Stp.go ?_))
         constructor
         refine(known7 _).mono ?_
         rintro e W9 ⟨rfl,h3⟩
         have HKE:=hide ((unhide HL).k.trans h3)
         clear h3
         go_wp2_with fail
         go_ret
         exact⟨rfl,unhide HKE⟩
       have hd:decide ((jj:Int)<(L.length:Int))=true:=by simp;omega
       have HJJ:=hide hlt
       obtain⟨gg,hgg⟩:∃gg,L[jj]?=some gg:=⟨_,List.getElem?_eq_getElem hlt⟩
       have HGG:=hide hgg
       obtain⟨gL,oL,hao,hcL⟩:=(unhide HP) jj gg hgg
       subst hao
       have HLG:Hid (w.cell? ⟨gL,oL+jj,none⟩=some (.int .i64 gg)):=by have:=hcL 0 _ rfl;show _=_;simpa using this
       clear hcL hlt hgg
       go_wp2_with (first |(go_at_call 8;refine Stp.go ?_))
       constructor
       refine(start8 (some ⟨gL,oL,none⟩) cp ((unhide HP).kept (unhide HL).k) (unhide HNN) hL).mono ?_
       rintro e V3 ⟨hk2,⟨hok,wb2,b2,mb2,Q,rfl,hwd,hks,hst,how⟩ | ⟨hok,_⟩⟩
       rotate_left
       · rw [unhide HOK] at hok;cases hok
       have HO:Hid (In V2 V3 0 wb2 b2 mb2 Q (runT (only gg (X.take 0)) (newT L))):=⟨0,Nat.le_refl _,hwd,how,hk2,stT_new hks hst⟩
       clear hk2 hok hwd hks hst how
       go_wp2_with fail
       go_loopw [13] (fun i V=>∃(m:Nat) (Q:List Pr),m≤X.length∧i= .int .i64 m∧Hid (In V2 V m wb2 b2 mb2 Q (runT (only gg (X.take m)) (newT L)))) (fun i _=>X.length-(intOf i).toNat)
       case atStart=>exact ⟨0,_,by omega,rfl,HO⟩
       case round=>
         clear HO
         obtain⟨m,Q,hm,rfl,HO⟩:=hrel
         obtain⟨V4,hV4⟩:∃V4,V4=wr:=⟨_,rfl⟩
         subst hV4
         by_cases hlt:m<X.length
         · have hd:decide ((m:Int)<(X.length:Int))=true:=by simp;omega
           obtain⟨z,hz⟩:∃z,X[m]?=some z:=⟨_,List.getElem?_eq_getElem hlt⟩
           obtain⟨gX,oX,hbo,hcX⟩:=(unhide HX) m z hz
           subst hbo
           have HZ:=hide hz
           have HLT:=hide hlt
           have HK4:Hid (Kept [] w V4):=(unhide HL).k.trans (unhide HO).choose_spec.2.k
           have HXR:Hid (V4.rangeAt gX (oX+m*6) z.C):=fun i u hu=>(unhide HK4).cell (hcX i u hu) (by simp)
           have HLG4:Hid (V4.cell? ⟨gL,oL+jj,none⟩=some (.int .i64 gg)):=(unhide HK4).cell (unhide HLG) (by simp)
           clear hz hlt hcX
           go_upto_region 20 with fail
           by_cases hg:z.g=gg
           · refine wp_region_any mixed (wpAny_gz 19 rfl [some (.slice (some ⟨gX,oX,none⟩) X.length cq),some (.int .i64 (m:Int)),some (.pointer (some ⟨gX,oX+m*6,none⟩)),some (.pointer (some ⟨gX,oX+m*6+1,none⟩)),some (.int .i64 z.g),some (.slice (some ⟨gL,oL,none⟩) L.length cp),some (.int .i64 (jj:Int)),some (.pointer (some ⟨gL,oL+jj,none⟩)),some (.int .i64 gg),some (.bool true),some (.bool true),some (P0 wb2),some (.slice (some ⟨gX,oX,none⟩) X.length cq),some (.int .i64 (m:Int)),some (.pointer (some ⟨gX,oX+m*6,none⟩)),some (aggV z.C),some (.bool true),some (.bool false),some (.bool false)] (by kernel_rfl) rfl (by kernel_rfl) (fun l vs W9=>CZ V4 (fun W=>∃Q9,In V2 W (m+1) wb2 b2 mb2 Q9 (stepT z (runT (only gg (X.take m)) (newT L)))) l W9) CZ.init ?_ ?_)
             · intro ix o' hi ho a' w2 l vs hls hlf hJ hout hin hdep hnot
               match ix,ho with
               | 0,ho=>
                 cases ho
                 have e0:a'.eval (.tmp 1)= .slice (some ⟨gX,oX,none⟩) X.length cq:=(ho9 hout 1).trans rfl
                 exact wp_move (.tmp 1) rfl _ e0 (⟨_,rfl,told_of rfl,hJ.kp (by omega) (by decide)⟩)
               | 1,ho=>
                 cases ho
                 have e0:a'.eval (.tmp 13)= .int .i64 (m:Int):=(ho9 hout 13).trans rfl
                 exact wp_move (.tmp 13) rfl _ e0 (⟨_,rfl,told_of rfl,hJ.kp (by omega) (by decide)⟩)
               | 2,ho=>
                 cases ho
                 exact o_idx31n (.tmp 76) (.tmp 77) rfl gX oX X.length cq m (unhide HLT) (hx9 (hi9 hin 0 76) rfl) (hx9 (hi9 hin 1 77) rfl) (⟨_,rfl,told_of rfl,hJ.kp (by omega) (by decide)⟩)
               | 3,ho=>
                 cases ho
                 exact o_fld31_1 (.tmp 78) rfl gX (oX+m*6) (hx9 (hi9 hin 2 78) rfl) (⟨_,rfl,told_of rfl,hJ.kp (by omega) (by decide)⟩)
               | 4,ho=>
                 cases ho
                 have e0:a'.eval (.tmp 79)= .pointer (some ⟨gX,oX+m*6+1,none⟩):=hx9 (hi9 hin 3 79) rfl
                 have hk9:Kept [] V4 w2:=hJ.1 (ho9 hnot 16)
                 exact o_load3 (.tmp 79) rfl _ _ e0 (hk9.cell ((unhide HXR) 1 _ rfl) (by simp)) (⟨_,rfl,told_of rfl,hJ.kp (by omega) (by decide)⟩)
               | 5,ho=>
                 cases ho
                 have e0:a'.eval (.tmp 0)= .slice (some ⟨gL,oL,none⟩) L.length cp:=(ho9 hout 0).trans rfl
                 exact wp_move (.tmp 0) rfl _ e0 (⟨_,rfl,told_of rfl,hJ.kp (by omega) (by decide)⟩)
               | 6,ho=>
                 cases ho
                 have e0:a'.eval (.tmp 9)= .int .i64 (jj:Int):=(ho9 hout 9).trans rfl
                 exact wp_move (.tmp 9) rfl _ e0 (⟨_,rfl,told_of rfl,hJ.kp (by omega) (by decide)⟩)
               | 7,ho=>
                 cases ho
                 exact o_idx36n (.tmp 81) (.tmp 82) rfl gL oL L.length cp jj (unhide HJJ) (hx9 (hi9 hin 5 81) rfl) (hx9 (hi9 hin 6 82) rfl) (⟨_,rfl,told_of rfl,hJ.kp (by omega) (by decide)⟩)
               | 8,ho=>
                 cases ho
                 have e0:a'.eval (.tmp 83)= .pointer (some ⟨gL,oL+jj,none⟩):=hx9 (hi9 hin 7 83) rfl
                 have hk9:Kept [] V4 w2:=hJ.1 (ho9 hnot 16)
                 exact o_load3 (.tmp 83) rfl _ _ e0 (hk9.cell (unhide HLG4) (by simp)) (⟨_,rfl,told_of rfl,hJ.kp (by omega) (by decide)⟩)
               | 9,ho=>
                 cases ho
                 exact c_eql3 (.tmp 80) (.tmp 84) rfl _ _ true (by simp [hg]) (hx9 (hi9 hin 4 80) rfl) (hx9 (hi9 hin 8 84) rfl) (⟨_,rfl,told_of rfl,hJ.kp (by omega) (by decide)⟩)
               | 10,ho=>
                 cases ho
                 exact wp_move (.tmp 85) rfl _ (hx9 (hi9 hin 9 85) rfl) (⟨_,rfl,told_of rfl,hJ.kp (by omega) (by decide)⟩)
               | 11,ho=>
                 cases ho
                 have e0:a'.eval (.tmp 10)=P0 wb2:=(ho9 hout 10).trans rfl
                 exact wp_move (.tmp 10) rfl _ e0 (⟨_,rfl,told_of rfl,hJ.kp (by omega) (by decide)⟩)
               | 12,ho=>
                 cases ho
                 have e0:a'.eval (.tmp 1)= .slice (some ⟨gX,oX,none⟩) X.length cq:=(ho9 hout 1).trans rfl
                 exact wp_move (.tmp 1) rfl _ e0 (⟨_,rfl,told_of rfl,hJ.kp (by omega) (by decide)⟩)
               | 13,ho=>
                 cases ho
                 have e0:a'.eval (.tmp 13)= .int .i64 (m:Int):=(ho9 hout 13).trans rfl
                 exact wp_move (.tmp 13) rfl _ e0 (⟨_,rfl,told_of rfl,hJ.kp (by omega) (by decide)⟩)
               | 14,ho=>
                 cases ho
                 exact o_idx31n (.tmp 88) (.tmp 89) rfl gX oX X.length cq m (unhide HLT) (hx9 (hi9 hin 12 88) rfl) (hx9 (hi9 hin 13 89) rfl) (⟨_,rfl,told_of rfl,hJ.kp (by omega) (by decide)⟩)
               | 15,ho=>
                 cases ho
                 have e0:a'.eval (.tmp 90)= .pointer (some ⟨gX,oX+m*6,none⟩):=hx9 (hi9 hin 14 90) rfl
                 have hk9:Kept [] V4 w2:=hJ.1 (ho9 hnot 16)
                 exact wp_loadA row31 (.tmp 90) rfl gX (oX+m*6) e0 z.C rfl (fun i u hu=>hk9.cell ((unhide HXR) i u hu) (by simp)) (⟨_,rfl,told_of rfl,hJ.kp (by omega) (by decide)⟩)
               | 16,ho=>
                 cases ho
                 have e0:a'.eval (.tmp 87)=P0 wb2:=hx9 (hi9 hin 11 87) rfl
                 have e1:a'.eval (.tmp 91)=aggV z.C:=hx9 (hi9 hin 15 91) rfl
                 have hk9:Kept [] V4 w2:=hJ.1 hlf
                 obtain⟨A9,hA9,hL9⟩:=unhide HO
                 refine wp_callF 9 _ _ rfl #[P0 wb2,aggV z.C] (by simp [e0,e1]) (cg9 _ _) ((does9 (hL9.wd.step0 hk9) (by have:=unhide HLT;omega) z).mono ?_)
                 intro e w3 hd9
                 obtain⟨rfl,P9,hL10⟩:=(hL9.step0 hk9).does hd9
                 exact⟨_,rfl,_,rfl,told_of rfl,hJ.call (by omega) ⟨P9,A9+1,by omega,hL10⟩⟩
               | 17,ho=>
                 cases ho
                 exact o_not (.tmp 92) rfl true (hx9 (hi9 hin 16 92) rfl) (⟨_,rfl,told_of rfl,hJ.kp (by omega) (by decide)⟩)
               | 18,ho=>
                 cases ho
                 exact o_pick (.tmp 86) (.tmp 93) rfl _ (hx9 (hi9 hin 10 86) rfl) (hx9 (hi9 hin 17 93) rfl) (⟨_,rfl,told_of rfl,hJ.kp (by omega) (by decide)⟩)
             intro l_ vs4 V5 hl hJ htold
             obtain⟨Q9,hO9⟩:=hJ.2 (hl 16 (by decide))
             have HO9:=hide hO9
             have t0:vs4 0= .slice (some ⟨gX,oX,none⟩) X.length cq:=told_is _ (htold 0 (by decide)) rfl
             have t1:vs4 1= .int .i64 (m:Int):=told_is _ (htold 1 (by decide)) rfl
             have t2:vs4 2= .pointer (some ⟨gX,oX+m*6,none⟩):=told_is _ (htold 2 (by decide)) rfl
             have t3:vs4 3= .pointer (some ⟨gX,oX+m*6+1,none⟩):=told_is _ (htold 3 (by decide)) rfl
             have t4:vs4 4= .int .i64 z.g:=told_is _ (htold 4 (by decide)) rfl
             have t5:vs4 5= .slice (some ⟨gL,oL,none⟩) L.length cp:=told_is _ (htold 5 (by decide)) rfl
             have t6:vs4 6= .int .i64 (jj:Int):=told_is _ (htold 6 (by decide)) rfl
             have t7:vs4 7= .pointer (some ⟨gL,oL+jj,none⟩):=told_is _ (htold 7 (by decide)) rfl
             have t8:vs4 8= .int .i64 gg:=told_is _ (htold 8 (by decide)) rfl
             have t9:vs4 9= .bool true:=told_is _ (htold 9 (by decide)) rfl
             have t10:vs4 10= .bool true:=told_is _ (htold 10 (by decide)) rfl
             have t11:vs4 11=P0 wb2:=told_is _ (htold 11 (by decide)) rfl
             have t12:vs4 12= .slice (some ⟨gX,oX,none⟩) X.length cq:=told_is _ (htold 12 (by decide)) rfl
             have t13:vs4 13= .int .i64 (m:Int):=told_is _ (htold 13 (by decide)) rfl
             have t14:vs4 14= .pointer (some ⟨gX,oX+m*6,none⟩):=told_is _ (htold 14 (by decide)) rfl
             have t15:vs4 15=aggV z.C:=told_is _ (htold 15 (by decide)) rfl
             have t16:vs4 16= .bool true:=told_is _ (htold 16 (by decide)) rfl
             have t17:vs4 17= .bool false:=told_is _ (htold 17 (by decide)) rfl
             have t18:vs4 18= .bool false:=told_is _ (htold 18 (by decide)) rfl
             rw [show (List.range 19).map vs4= [vs4 0,vs4 1,vs4 2,vs4 3,vs4 4,vs4 5,vs4 6,vs4 7,vs4 8,vs4 9,vs4 10,vs4 11,vs4 12,vs4 13,vs4 14,vs4 15,vs4 16,vs4 17,vs4 18] from rfl]
             simp only [t0,t1,t2,t3,t4,t5,t6,t7,t8,t9,t10,t11,t12,t13,t14,t15,t16,t17,t18,putAll,Act.put,List.setIfInBounds_toArray,List.set_cons_succ,List.set_cons_zero]
             clear t0 t1 t2 t3 t4 t5 t6 t7 t8 t9 t10 t11 t12 t13 t14 t15 t16 t17 t18 htold hJ hl hO9
             go_wp2_with fail
             go_roundw
             case rel=>exact ⟨m+1,Q9,by have:=unhide HLT;omega,by go_num,by rw [only_succ gg (unhide HZ),if_pos hg,runT_add];exact HO9⟩
             case measure=>have:=unhide HLT;simp [intOf];omega
           · refine wp_region_any mixed (wpAny_tq 19 rfl (by kernel_rfl) [some (.slice (some ⟨gX,oX,none⟩) X.length cq),some (.int .i64 (m:Int)),some (.pointer (some ⟨gX,oX+m*6,none⟩)),some (.pointer (some ⟨gX,oX+m*6+1,none⟩)),some (.int .i64 z.g),some (.slice (some ⟨gL,oL,none⟩) L.length cp),some (.int .i64 (jj:Int)),some (.pointer (some ⟨gL,oL+jj,none⟩)),some (.int .i64 gg),some (.bool false),some (.bool false),none,none,none,none,none,none,none,some (.bool false)] rfl (by kernel_rfl) (by kernel_rfl) ?_ ?_)
             · intro i o' hi hsk ho a' w2 hout hin hk2
               replace hk2:Kept [] V4 w2:=ud hk2
               match i,ho,hsk with
               | 0,ho,hsk=>
                 cases ho
                 have e0:a'.eval (.tmp 1)= .slice (some ⟨gX,oX,none⟩) X.length cq:=(ho9 hout 1).trans rfl
                 exact wp_move (.tmp 1) rfl _ e0 (tE rfl)
               | 1,ho,hsk=>
                 cases ho
                 have e0:a'.eval (.tmp 13)= .int .i64 (m:Int):=(ho9 hout 13).trans rfl
                 exact wp_move (.tmp 13) rfl _ e0 (tE rfl)
               | 2,ho,hsk=>
                 cases ho
                 exact o_idx31n (.tmp 76) (.tmp 77) rfl gX oX X.length cq m (unhide HLT) (is_tq (hi9 hin 0 76) rfl) (is_tq (hi9 hin 1 77) rfl) (tE rfl)
               | 3,ho,hsk=>
                 cases ho
                 exact o_fld31_1 (.tmp 78) rfl gX (oX+m*6) (is_tq (hi9 hin 2 78) rfl) (tE rfl)
               | 4,ho,hsk=>
                 cases ho
                 have e0:a'.eval (.tmp 79)= .pointer (some ⟨gX,oX+m*6+1,none⟩):=is_tq (hi9 hin 3 79) rfl
                 have hk9:Kept [] V4 w2:=hk2
                 exact o_load3 (.tmp 79) rfl _ _ e0 (hk9.cell ((unhide HXR) 1 _ rfl) (by simp)) (tE rfl)
               | 5,ho,hsk=>
                 cases ho
                 have e0:a'.eval (.tmp 0)= .slice (some ⟨gL,oL,none⟩) L.length cp:=(ho9 hout 0).trans rfl
                 exact wp_move (.tmp 0) rfl _ e0 (tE rfl)
               | 6,ho,hsk=>
                 cases ho
                 have e0:a'.eval (.tmp 9)= .int .i64 (jj:Int):=(ho9 hout 9).trans rfl
                 exact wp_move (.tmp 9) rfl _ e0 (tE rfl)
               | 7,ho,hsk=>
                 cases ho
                 exact o_idx36n (.tmp 81) (.tmp 82) rfl gL oL L.length cp jj (unhide HJJ) (is_tq (hi9 hin 5 81) rfl) (is_tq (hi9 hin 6 82) rfl) (tE rfl)
               | 8,ho,hsk=>
                 cases ho
                 have e0:a'.eval (.tmp 83)= .pointer (some ⟨gL,oL+jj,none⟩):=is_tq (hi9 hin 7 83) rfl
                 have hk9:Kept [] V4 w2:=hk2
                 exact o_load3 (.tmp 83) rfl _ _ e0 (hk9.cell (unhide HLG4) (by simp)) (tE rfl)
               | 9,ho,hsk=>
                 cases ho
                 exact c_eql3 (.tmp 80) (.tmp 84) rfl _ _ false (by simp [hg]) (is_tq (hi9 hin 4 80) rfl) (is_tq (hi9 hin 8 84) rfl) (tE rfl)
               | 10,ho,hsk=>
                 cases ho
                 exact wp_move (.tmp 85) rfl _ (is_tq (hi9 hin 9 85) rfl) (tE rfl)
               | 11,ho,hsk=>
                 cases hsk
               | 12,ho,hsk=>
                 cases hsk
               | 13,ho,hsk=>
                 cases hsk
               | 14,ho,hsk=>
                 cases hsk
               | 15,ho,hsk=>
                 cases hsk
               | 16,ho,hsk=>
                 cases hsk
               | 17,ho,hsk=>
                 cases hsk
               | 18,ho,hsk=>
                 cases ho
                 exact o_pickN (.tmp 86) (.tmp 93) rfl (is_tq (hi9 hin 10 86) rfl) (tE rfl)
             intro w9 hk9
             replace hk9:Kept [] V4 w9:=ud hk9
             have HO9:Hid (In V2 w9 m wb2 b2 mb2 Q (runT (only gg (X.take m)) (newT L))):=by
               obtain⟨A9,hA9,hL9⟩:=unhide HO
               exact⟨A9,hA9,hL9.step0 hk9⟩
             clear hk9
             simp only [valsQ,List.map_cons,List.map_nil,Option.getD_some,Option.getD_none,List.take_succ_cons,List.take_zero,putAll,Act.put,List.setIfInBounds_toArray,List.set_cons_succ,List.set_cons_zero]
             refine wpAny_done (by kernel_rfl) ?_ _
             go_wp2_with fail
             go_roundw
             case rel=>
               obtain⟨A9,hA9,hL9⟩:=unhide HO9
               exact⟨m+1,Q,by have:=unhide HLT;omega,by go_num,by rw [only_succ gg (unhide HZ),if_neg hg];exact⟨A9,by omega,hL9⟩⟩
             case measure=>have:=unhide HLT;simp [intOf];omega
         · obtain rfl:m=X.length:=by omega
           have hd:decide ((X.length:Int)<(X.length:Int))=false:=by simp
           rw [List.take_length] at HO
           obtain⟨A9,hA9,hL9⟩:=unhide HO
           have HOL:=hide hL9
           have HA9:=hide hA9
           have HWL:Hid (Lw w V4 X.length wb b mb P (runT X (newT L))):=(unhide HL).step0 (unhide HOL).k
           obtain⟨p,q,hp,hq,hs,hqq⟩:=two_at (g:=gg) (unhide HWL).wd (unhide HOL).wd (by
             rw [(unhide HWL).keys]
             exact List.mem_of_getElem? (unhide HGG)) (by rw [(unhide HWL).t,(unhide HOL).t];exact run_only gg X _ _ rfl)
           have HPP:=hide hp
           have HQQ:=hide hq
           have HBE:Hid (q.s.book q.q=p.s.book p.q):=by show _=_;rw [hs,hqq]
           have HLQ:Hid (p.q.length≤1000):=by
             have h1:=((unhide HWL).wd.dg.lk p (lkOf_some hp).1).gd.len
             show _≤_
             omega
           have HLG4:Hid (V4.cell? ⟨gL,oL+jj,none⟩=some (.int .i64 gg)):=(unhide HWL).k.cell (unhide HLG) (by simp)
           have HC1:=hide (unhide HWL).wd.c0
           clear hL9 hA9 hp hq hs hqq HO
           go_upto_region 22 with fail
           refine wp_region_any mixed (wpAny_gx 15 rfl (by kernel_rfl) [some (P0 wb),some (P0 wb),some (P0 wb),some (P0 b),some (.slice (some ⟨gL,oL,none⟩) L.length cp),some (.int .i64 (jj:Int)),some (.pointer (some ⟨gL,oL+jj,none⟩)),some (.int .i64 gg),none,none,none,none,none,none,none] rfl (by kernel_rfl) (fun l vs W9=>BX V4 (p.s.book p.q) (fun i=>l.getD i false) vs W9) BX.init ?_ ?_)
           · intro ix o' hi ho a' w2 l vs hls hlf hJ hout hin hdep hnot
             match ix,ho with
             | 0,ho=>
               cases ho
               have e0:a'.eval (.tmp 5)=P0 wb:=(ho9 hout 5).trans rfl
               exact wp_move (.tmp 5) rfl _ e0 (kpB hJ rfl (by omega) (by decide))
             | 1,ho=>
               cases ho
               exact o_nil (.tmp 96) rfl _ (hx9 (hi9 hin 0 96) rfl) (kpB hJ rfl (by omega) (by decide))
             | 2,ho=>
               cases ho
               exact o_fld46_0 (.tmp 97) rfl wb 0 (hx9 (hi9 hin 1 97) rfl) (kpB hJ rfl (by omega) (by decide))
             | 3,ho=>
               cases ho
               exact o_load42 (.tmp 98) rfl _ _ (hx9 (hi9 hin 2 98) rfl) (hJ.k.cell (unhide HC1) (by simp)) (kpB hJ rfl (by omega) (by decide))
             | 4,ho=>
               cases ho
               have e0:a'.eval (.tmp 0)= .slice (some ⟨gL,oL,none⟩) L.length cp:=(ho9 hout 0).trans rfl
               exact wp_move (.tmp 0) rfl _ e0 (kpB hJ rfl (by omega) (by decide))
             | 5,ho=>
               cases ho
               have e0:a'.eval (.tmp 9)= .int .i64 (jj:Int):=(ho9 hout 9).trans rfl
               exact wp_move (.tmp 9) rfl _ e0 (kpB hJ rfl (by omega) (by decide))
             | 6,ho=>
               cases ho
               exact o_idx36n (.tmp 100) (.tmp 101) rfl gL oL L.length cp jj (unhide HJJ) (hx9 (hi9 hin 4 100) rfl) (hx9 (hi9 hin 5 101) rfl) (kpB hJ rfl (by omega) (by decide))
             | 7,ho=>
               cases ho
               exact o_load3 (.tmp 102) rfl _ _ (hx9 (hi9 hin 6 102) rfl) (hJ.k.cell (unhide HLG4) (by simp)) (kpB hJ rfl (by omega) (by decide))
             | 8,ho=>
               cases ho
               have e0:a'.eval (.tmp 99)=P0 b:=hx9 (hi9 hin 3 99) rfl
               have e1:a'.eval (.tmp 103)= .int .i64 gg:=hx9 (hi9 hin 7 103) rfl
               refine wp_callF 11 _ _ rfl #[P0 b,.int .i64 gg] (by simp [e0,e1]) (cg11 _ _) ((book11_is ((unhide HWL).wd.dg.step0 hJ.k) (by omega) (unhide HPP)).mono ?_)
               rintro e w3 ⟨x1,y1,z1,rfl,hb3,hk3⟩
               exact⟨_,rfl,_,rfl,told_no rfl,nextG (by omega) (BX.call hJ (ho9 hnot 9) (ho9 hnot 10) (ho9 hnot 13) hk3 hb3)⟩
             | 9,ho=>
               cases ho
               have e0:a'.eval (.tmp 104)=vs 8:=(hi9 hin 8 104).1
               exact wp_move (.tmp 104) rfl _ e0 ⟨_,rfl,told_no rfl,nextG (by omega) (BX.mv hJ (ho9 hdep 8) rfl)⟩
             | 10,ho=>
               cases ho
               have e0:a'.eval (.tmp 95)=vs 9:=(hi9 hin 9 95).1
               obtain⟨hk,hq⟩:=hJ.m (ho9 hdep 9)
               obtain⟨x1,y1,z1,hu,_⟩:=hJ.c hk
               rw [hq,hu] at e0
               exact o_ext0 (.tmp 95) rfl _ _ e0 ⟨_,rfl,told_no rfl,nextG (by omega) (BX.ex hJ hk (by rw [hu];rfl))⟩
             | 11,ho=>
               cases ho
               have e0:a'.eval (.tmp 95)=vs 9:=(hi9 hin 9 95).1
               obtain⟨hk,hq⟩:=hJ.m (ho9 hdep 9)
               obtain⟨x1,y1,z1,hu,_⟩:=hJ.c hk
               rw [hq,hu] at e0
               exact o_ext1 (.tmp 95) rfl _ _ e0 (kpN hJ rfl (by omega) (by decide))
             | 12,ho=>
               cases ho
               refine o_allocZ bz43 zero43 rfl ?_
               intro W7 b7 e7 B7 K7
               exact⟨_,rfl,told_no rfl,nextG (by omega) (BX.alloc hJ (ho9 hnot 13) e7 B7 K7)⟩
             | 13,ho=>
               cases ho
               have e0:a'.eval (.tmp 14)=vs 12:=(hi9 hin 12 14).1
               have e1:a'.eval (.tmp 105)=vs 10:=(hi9 hin 10 105).1
               obtain⟨b7,q1,q2,q3,_⟩:=hJ.al (ho9 hdep 12)
               obtain⟨hk,hq⟩:=hJ.e (ho9 hdep 10)
               obtain⟨x1,y1,z1,hu,hb7⟩:=hJ.c hk
               rw [q1] at e0
               rw [hq,hu] at e1
               refine o_stB row43 (.tmp 14) (.tmp 105) rfl b7 ((p.s.book p.q).C x1 y1 z1) bz43 e0 e1 rfl rfl (by decide) (BoC_one hb7) (q3 hlf) ?_
               intro W7 B7 K7
               exact⟨_,rfl,told_no rfl,nextG (by omega) (BX.st hJ (ho9 hdep 12) q1 hb7 (q3 hlf) B7 K7)⟩
             | 14,ho=>
               cases ho
               have e0:a'.eval (.tmp 106)=vs 11:=(hi9 hin 11 106).1
               exact wp_assignV (.tmp 106) rfl _ e0 (kpN hJ rfl (by omega) (by decide))
           intro l_ vs4 V5 hl hJ htold
           obtain⟨b5,q1,q2,_,q3⟩:=hJ.al (hl 12 (by decide))
           obtain⟨xV5,yV5,zV5,q4,q5⟩:=q3 (hl 13 (by decide))
           have HB5:=hide q4
           have HBK5:=hide (Bk_bs q5)
           have HK5:=hide hJ.k
           rw [show (List.range 15).map vs4= [vs4 0,vs4 1,vs4 2,vs4 3,vs4 4,vs4 5,vs4 6,vs4 7,vs4 8,vs4 9,vs4 10,vs4 11,vs4 12,vs4 13,vs4 14] from rfl]
           simp only [q1,putAll,Act.put,List.setIfInBounds_toArray,List.set_cons_succ,List.set_cons_zero]
           clear q1 q2 q3 q4 q5 htold hJ hl
           have HOL5:=hide ((unhide HOL).step0 (unhide HK5))
           have HLG5:Hid (V5.cell? ⟨gL,oL+jj,none⟩=some (.int .i64 gg)):=(unhide HK5).cell (unhide HLG4) (by simp)
           have HC2:=hide (unhide HOL5).wd.c0
           go_upto_region 23 with fail
           refine wp_region_any mixed (wpAny_gx 15 rfl (by kernel_rfl) [some (P0 wb2),some (P0 wb2),some (P0 wb2),some (P0 b2),some (.slice (some ⟨gL,oL,none⟩) L.length cp),some (.int .i64 (jj:Int)),some (.pointer (some ⟨gL,oL+jj,none⟩)),some (.int .i64 gg),none,none,none,none,none,none,none] rfl (by kernel_rfl) (fun l vs W9=>BX V5 (q.s.book q.q) (fun i=>l.getD i false) vs W9) BX.init ?_ ?_)
           · intro ix o' hi ho a' w2 l vs hls hlf hJ hout hin hdep hnot
             match ix,ho with
             | 0,ho=>
               cases ho
               have e0:a'.eval (.tmp 10)=P0 wb2:=(ho9 hout 10).trans rfl
               exact wp_move (.tmp 10) rfl _ e0 (kpB hJ rfl (by omega) (by decide))
             | 1,ho=>
               cases ho
               exact o_nil (.tmp 108) rfl _ (hx9 (hi9 hin 0 108) rfl) (kpB hJ rfl (by omega) (by decide))
             | 2,ho=>
               cases ho
               exact o_fld46_0 (.tmp 109) rfl wb2 0 (hx9 (hi9 hin 1 109) rfl) (kpB hJ rfl (by omega) (by decide))
             | 3,ho=>
               cases ho
               exact o_load42 (.tmp 110) rfl _ _ (hx9 (hi9 hin 2 110) rfl) (hJ.k.cell (unhide HC2) (by simp)) (kpB hJ rfl (by omega) (by decide))
             | 4,ho=>
               cases ho
               have e0:a'.eval (.tmp 0)= .slice (some ⟨gL,oL,none⟩) L.length cp:=(ho9 hout 0).trans rfl
               exact wp_move (.tmp 0) rfl _ e0 (kpB hJ rfl (by omega) (by decide))
             | 5,ho=>
               cases ho
               have e0:a'.eval (.tmp 9)= .int .i64 (jj:Int):=(ho9 hout 9).trans rfl
               exact wp_move (.tmp 9) rfl _ e0 (kpB hJ rfl (by omega) (by decide))
             | 6,ho=>
               cases ho
               exact o_idx36n (.tmp 112) (.tmp 113) rfl gL oL L.length cp jj (unhide HJJ) (hx9 (hi9 hin 4 112) rfl) (hx9 (hi9 hin 5 113) rfl) (kpB hJ rfl (by omega) (by decide))
             | 7,ho=>
               cases ho
               exact o_load3 (.tmp 114) rfl _ _ (hx9 (hi9 hin 6 114) rfl) (hJ.k.cell (unhide HLG5) (by simp)) (kpB hJ rfl (by omega) (by decide))
             | 8,ho=>
               cases ho
               have e0:a'.eval (.tmp 111)=P0 b2:=hx9 (hi9 hin 3 111) rfl
               have e1:a'.eval (.tmp 115)= .int .i64 gg:=hx9 (hi9 hin 7 115) rfl
               refine wp_callF 11 _ _ rfl #[P0 b2,.int .i64 gg] (by simp [e0,e1]) (cg11 _ _) ((book11_is ((unhide HOL5).wd.dg.step0 hJ.k) (by have:=unhide HA9;omega) (unhide HQQ)).mono ?_)
               rintro e w3 ⟨x1,y1,z1,rfl,hb3,hk3⟩
               exact⟨_,rfl,_,rfl,told_no rfl,nextG (by omega) (BX.call hJ (ho9 hnot 9) (ho9 hnot 10) (ho9 hnot 13) hk3 hb3)⟩
             | 9,ho=>
               cases ho
               have e0:a'.eval (.tmp 116)=vs 8:=(hi9 hin 8 116).1
               exact wp_move (.tmp 116) rfl _ e0 ⟨_,rfl,told_no rfl,nextG (by omega) (BX.mv hJ (ho9 hdep 8) rfl)⟩
             | 10,ho=>
               cases ho
               have e0:a'.eval (.tmp 107)=vs 9:=(hi9 hin 9 107).1
               obtain⟨hk,hq⟩:=hJ.m (ho9 hdep 9)
               obtain⟨x1,y1,z1,hu,_⟩:=hJ.c hk
               rw [hq,hu] at e0
               exact o_ext0 (.tmp 107) rfl _ _ e0 ⟨_,rfl,told_no rfl,nextG (by omega) (BX.ex hJ hk (by rw [hu];rfl))⟩
             | 11,ho=>
               cases ho
               have e0:a'.eval (.tmp 107)=vs 9:=(hi9 hin 9 107).1
               obtain⟨hk,hq⟩:=hJ.m (ho9 hdep 9)
               obtain⟨x1,y1,z1,hu,_⟩:=hJ.c hk
               rw [hq,hu] at e0
               exact o_ext1 (.tmp 107) rfl _ _ e0 (kpN hJ rfl (by omega) (by decide))
             | 12,ho=>
               cases ho
               refine o_allocZ bz43 zero43 rfl ?_
               intro W7 b7 e7 B7 K7
               exact⟨_,rfl,told_no rfl,nextG (by omega) (BX.alloc hJ (ho9 hnot 13) e7 B7 K7)⟩
             | 13,ho=>
               cases ho
               have e0:a'.eval (.tmp 16)=vs 12:=(hi9 hin 12 16).1
               have e1:a'.eval (.tmp 117)=vs 10:=(hi9 hin 10 117).1
               obtain⟨b7,q1,q2,q3,_⟩:=hJ.al (ho9 hdep 12)
               obtain⟨hk,hq⟩:=hJ.e (ho9 hdep 10)
               obtain⟨x1,y1,z1,hu,hb7⟩:=hJ.c hk
               rw [q1] at e0
               rw [hq,hu] at e1
               refine o_stB row43 (.tmp 16) (.tmp 117) rfl b7 ((q.s.book q.q).C x1 y1 z1) bz43 e0 e1 rfl rfl (by decide) (BoC_one hb7) (q3 hlf) ?_
               intro W7 B7 K7
               exact⟨_,rfl,told_no rfl,nextG (by omega) (BX.st hJ (ho9 hdep 12) q1 hb7 (q3 hlf) B7 K7)⟩
             | 14,ho=>
               cases ho
               have e0:a'.eval (.tmp 118)=vs 11:=(hi9 hin 11 118).1
               exact wp_assignV (.tmp 118) rfl _ e0 (kpN hJ rfl (by omega) (by decide))
           intro l_ vs4 V6 hl hJ htold
           obtain⟨b6,q1,q2,_,q3⟩:=hJ.al (hl 12 (by decide))
           obtain⟨xV6,yV6,zV6,q4,q5⟩:=q3 (hl 13 (by decide))
           have HB6:=hide q4
           have HBK6:=hide (Bk_bs q5)
           have HK6:=hide hJ.k
           rw [show (List.range 15).map vs4= [vs4 0,vs4 1,vs4 2,vs4 3,vs4 4,vs4 5,vs4 6,vs4 7,vs4 8,vs4 9,vs4 10,vs4 11,vs4 12,vs4 13,vs4 14] from rfl]
           simp only [q1,putAll,Act.put,List.setIfInBounds_toArray,List.set_cons_succ,List.set_cons_zero]
           clear q1 q2 q3 q4 q5 htold hJ hl
           rw [unhide HBE] at HB6 HBK6
           have HB56:=hide ((unhide HB5).kept (unhide HK6) (by simp))
           have HBK56:=hide ((unhide HBK5).kept (unhide HK6))
           have HL6:=hide (((unhide HWL).step0 (unhide HK5)).step0 (unhide HK6))
           clear HB5 HBK5 HOL HOL5 HLG4 HLG5 HC1 HC2 HWL HL
           go_wp2_with (first |(refine wpLoadA row43 rfl (.tmp 14) rfl b5 0 rfl _ rfl (unhide HB56).range ?_;refine Stp.go ?_))
           constructor
           go_wp2_with (first |(refine wpLoadA row43 rfl (.tmp 16) rfl b6 0 rfl _ rfl (unhide HB6).range ?_;refine Stp.go ?_))
           constructor
           go_wp2_with (first |(go_at_call 12;refine Stp.go ?_))
           constructor
           refine(sameBook14 _ _ _ _ _ _ _ _ (unhide HBK56) (unhide HBK6) book_len.1 book_len.2 (unhide HLQ)).mono ?_
           rintro e V7 ⟨rfl,hk7⟩
           have HL7:=hide ((unhide HL6).step0 hk7)
           clear hk7 HL6
           go_wp2_with fail
           go_roundw
           case rel=>exact ⟨jj+1,by have:=unhide HJJ;omega,by go_num,HL7⟩
           case measure=>have:=unhide HJJ;simp [intOf];omega
end Go.Proofs.Ytbigongmlpoahaa.D
