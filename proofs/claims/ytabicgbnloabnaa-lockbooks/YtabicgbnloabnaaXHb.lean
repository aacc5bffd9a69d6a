import Derived.Test.YtabicgbnloabnaaXHa
import Derived.BigQuiet
namespace Go.Proofs.Ytabicgbnloabnaa
set_option maxRecDepth 100000
set_option linter.unusedSimpArgs false
open Go.RowKit
structure Lb (base W:World) (b c j:Nat) (s:Lo) (L:List Wi) (r:Rk) (R:List Wi) (ln lr:Value) (q:Nat) (x y z v:Value) (O:List Od):Prop where
 st:St base W b c j s L r R ln lr
 bk:Blk W q 43 ((s.book L).C x y z)
 sh:Rw W 3 1 x (lst s.shd).length (inC (lst s.shd))
 li:Ws W z L
 out:Os W v O
theorem Lb.step {base W W':World} {b c j:Nat} {s:Lo} {L R:List Wi} {r:Rk} {ln lr:Value} {q:Nat} {x y z v:Value} {O:List Od} (h:Lb base W b c j s L r R ln lr q x y z v O) (hk:Kept [] W W'):Lb base W' b c j s L r R ln lr q x y z v O:=
 ⟨h.st.step hk,h.bk.kept hk (by simp),h.sh.kept hk (by simp),h.li.kept hk (by simp),h.out.kept hk (by simp)⟩
structure Lq (base W:World) (b c j:Nat) (s:Lo) (L:List Wi) (r:Rk) (R:List Wi) (ln lr v:Value) (O:List Od):Prop where
 st:St base W b c j s L r R ln lr
 out:Os W v O
theorem Lq.step {base W W':World} {b c j:Nat} {s:Lo} {L R:List Wi} {r:Rk} {ln lr v:Value} {O:List Od} (h:Lq base W b c j s L r R ln lr v O) (hk:Kept [] W W'):Lq base W' b c j s L r R ln lr v O:=
 ⟨h.st.step hk,h.out.kept hk (by simp)⟩
theorem Rw.le {W:World} {e z n:Nat} {v:Value} {xs:List Value} (h:Rw W e z v n xs):(n:Int)≤9223372036854775807:=by
 rcases h.lie with ⟨_,rfl⟩ | ⟨g,off,cap,cur,_,_,h1,h2,_⟩
 · decide
 · have:cap≤9223372036854775807:=h2
   omega
theorem kept_drewN (X:List Nat) (w:World) (q:Nat):Kept X w (w.drewN q):=⟨rfl,rfl,rfl,Nat.le_refl _,fun _ _ _=>rfl⟩
theorem cg17 (vs:Array Value) (w:World):(callFunc 17 vs).run Try.prog w= .ok (.enter 17 vs) w:=by kernel_rfl
theorem holdsP_no {s:Lo} {n:Nat} (h:s.ho n=false):(holdsP s (n:Int)).2=false:=by
 unfold holdsP
 rw [if_neg]
 rintro ⟨_,h2⟩
 rw [Int.toNat_natCast,h] at h2
 cases h2
theorem holdsP_yes {s:Lo} {n:Nat} (hn:n<8) (h:s.ho n=true):(holdsP s (n:Int)).2=true:=by
 unfold holdsP
 rw [if_pos ⟨by simp [isN];omega,by rw [Int.toNat_natCast];exact h⟩]
 split <;> rfl
set_option maxHeartbeats 2000000 in
theorem books_a (ao:Option Addr) (c0:Nat) (X:List Sp) (w:World) (hl:decide ((200:Int)<(X.length:Int))=true):Calls Try.prog 5 #[.slice ao X.length c0] w fun x w'=>x= .returned (.bool true)∧Kept [] w w':=by
 go_enter Try.func5,Try.ntmps5
 go_wp2_with (first |(go_at_call 9;refine(known9 _).mono ?_;rintro e W99 ⟨rfl,K99⟩;refine Stp.go ?_))
 constructor
 go_wp2_with fail
 go_ret
 exact⟨rfl,K99⟩
set_option maxHeartbeats 16000000 in
theorem books_b (ao:Option Addr) (c0:Nat) (X:List Sp) (w:World) (hl:decide ((200:Int)<(X.length:Int))=false) (hX:RowS Sp.C 5 w ao X):Calls Try.prog 5 #[.slice ao X.length c0] w fun x w'=>x= .returned (.bool true)∧Kept [] w w':=by
 have HX:=hide hX
 have hlen:(X.length:Int)≤200:=by have:=of_decide_eq_false hl;omega
 clear hX
 go_enter Try.func5,Try.ntmps5
 go_wp2_with (first |(go_at_call 10;refine(new10 _).mono ?_;rintro e W1 ⟨b,rfl,hb1,hB1,K1⟩;have HN1:=hide (And.intro hb1 (And.intro hB1 K1));clear hb1 hB1 K1;refine Stp.go ?_))
 constructor
 go_wp2_with (first |(go_at_call 11;refine(rnew11 _).mono ?_;rintro e W2 ⟨c,rfl,hc2,hC2,K2⟩;have HS:=hide (St.new (unhide HN1).1 (unhide HN1).2.1 (unhide HN1).2.2 hc2 hC2 K2);clear HN1 hc2 hC2 K2;refine Stp.go ?_))
 constructor
 go_wp2_with fail
 go_loopw [5,6] (fun xo xi wr=>∃(j:Nat) (s:Lo) (L:List Wi) (r:Rk) (R:List Wi) (ln lr:Value),j≤X.length∧xo= .int .i64 s.op∧xi= .int .i64 j∧Hid (St w wr b c j s L r R ln lr)) (fun _ i _=>X.length-(intOf i).toNat)
 case atStart=>exact ⟨0,lo0,[],rk0,[],_,_,by omega,rfl,rfl,HS⟩
 case round=>
   clear HS
   obtain⟨j,s,L,r,R,ln,lr,hj,rfl,rfl,HS⟩:=hrel
   by_cases hlt:j<X.length
   · have hd:decide ((j:Int)<(X.length:Int))=true:=by simp;omega
     obtain⟨sp,hsp⟩:∃x,X[j]?=some x:=⟨_,List.getElem?_eq_getElem hlt⟩
     have HSP:=hide hsp
     have HXW:Hid (RowS Sp.C 5 wr ao X):=(unhide HX).kept (unhide HS).du.kept
     have hlf:=pdo_lf (unhide HS).gd (unhide HS).iv (unhide HS).bz r sp
     have PD:=hide ((unhide HS).does (by omega) sp)
     obtain⟨p1,hp⟩:∃p,p=pdo s L r sp:=⟨_,rfl⟩
     obtain⟨p2,hq⟩:∃p,p=rdo r R sp:=⟨_,rfl⟩
     rw [← hp] at hlf PD
     rw [← hq] at PD
     obtain⟨s1,L1,O1⟩:=p1
     obtain⟨r1,R1,P1⟩:=p2
     obtain⟨⟨_,hgood,_⟩,hop⟩:=hlf
     have HGD:Hid (∀o∈O1,Good s1 o):=hgood
     have HOP:Hid (decide (s1.op<s.op)=false):=by show decide (s1.op<s.op)=false;simp;exact hop
     clear hp hq hgood hop hsp
     go_wp2_with (first |(refine wpIdx22 rfl (.tmp 32) (.tmp 33) rfl ao c0 X j sp rfl rfl (unhide HXW) (unhide HSP) ?_;intro g o9 HR9;refine Stp.go ?_))
     constructor
     go_wp2_with (first |(refine wpLoadA row33 rfl (.tmp 34) rfl g o9 rfl sp.C rfl HR9 ?_;clear HR9 HXW HSP;refine Stp.go ?_))
     constructor
     go_wp2_with (first |(go_at_call 12;refine(unhide PD).mono ?_;rintro e W3 ⟨v,v2,ln1,lr1,rfl,N3,_,hS3⟩;replace HS:=hide hS3;have HO:=hide (show Os W3 v O1 from N3.row);clear N3 hS3 PD;refine Stp.go ?_))
     constructor
     go_wp2_with (first |(go_at_call 15;refine(book15 s1 ln1 b L1 _ (unhide HS).du.sb (unhide HS).du.sw (unhide HS).gd.ok.ex (by have:=(unhide HS).gd.len;omega)).mono ?_;rintro e W4 ⟨x,y,z,rfl,hB4,K4⟩;replace HS:=hide ((unhide HS).step K4);replace HO:=hide (show Os W4 v O1 from(unhide HO).kept K4 (by simp));have HB4:=hide hB4;clear hB4 K4;refine Stp.go ?_))
     constructor
     go_wp2_with (first |(refine wpNew row43 bz43 rfl zero43 9 rfl rfl rfl (.tmp 40) rfl rfl rfl ((s1.book L1).C x y z) rfl (BoC_one (unhide HB4)) (by kernel_rfl) (by kernel_rfl) ?_;intro W5 q e5 B5 K5;have HL:Hid (Lb w W5 b c (j+1) s1 L1 r1 R1 ln1 lr1 q x y z v O1):=⟨(unhide HS).step K5,B5,(unhide HB4).sh.row.kept K5 (by simp),(unhide HB4).ln.row.kept K5 (by simp),(unhide HO).kept K5 (by simp)⟩;clear e5 B5 K5 HS HO HB4;refine Stp.go ?_))
     constructor
     go_upto_region 11 with fail
     simp only [Act.put,List.setIfInBounds_toArray,List.set_cons_succ,List.set_cons_zero]
     go_cut [80] from 23 to 161 (fun t wc=>t= .bool false∧Hid (Lb w wc b c (j+1) s1 L1 r1 R1 ln1 lr1 q x y z v O1))
     case first=>
       by_cases hex:0≤s1.ex
       · have HSN:=hide (shd_none (unhide HL).st.iv hex)
         have HOE:Hid (decide (s1.ow=s1.ex)=true):=decide_eq_true ((unhide HL).st.iv.ex hex).1
         have HEX:Hid (decide (s1.ex≥0)=true):=decide_eq_true hex
         clear hex
         cases hbz:s1.busy with
         | true=>
          have HBZ:=hide hbz
          clear hbz
          refine wp_region_any mixed (wpAny_tq 40 rfl (by kernel_rfl) [some (P0 q),some (.int .i64 s1.ex),some (.bool true),some (.bool true),some (.pointer (some ⟨q,2,none⟩)),some (x),some (.int .i64 (((0:Nat):Int))),some (.bool false),some (.bool false),some (.pointer (some ⟨q,1,none⟩)),some (.int .i64 s1.ow),some (P0 q),some (.int .i64 s1.ex),some (.bool false),some (.bool false),some (.bool false),some (.bool false),some (.pointer (some ⟨q,16,none⟩)),some (.int .i64 s1.op),some (.int .i64 s.op),some (.bool false),some (.bool false),some (.bool false),some (.pointer (some ⟨q,15,none⟩)),some (.bool true),some (P0 b),some (.bool false),some (.bool false),some (.bool false),some (.bool false),some (.pointer (some ⟨q,15,none⟩)),some (.bool true),some (.bool false),some (.bool false),none,none,none,none,some (.bool false),some (.bool false)] rfl (by kernel_rfl) (by kernel_rfl) ?_ ?_)
          · intro i o' hi hsk ho a' w2 hout hin hk2
            replace hk2:Kept [] W5 w2:=⟨hk2.os,hk2.tape,hk2.output,hk2.size,hk2.block⟩
            match i,ho,hsk with
            | 0,ho,hsk=>
              obtain rfl:=Oj9 ho
              exact o_fld43_0 (.tmp 9) rfl q (0) (0) rfl ((hout 9 (by kernel_rfl)).trans rfl) ⟨_,rfl,tq_is _ _ _ _ rfl,Kept.refl _ _,fun _ _ _ _ _=>trivial⟩
            | 1,ho,hsk=>
              obtain rfl:=Oj9 ho
              have e0:a'.eval (.tmp 41)=P0 q:=is_tq (hin 0 41 (by kernel_rfl) (by kernel_rfl)) rfl
              exact o_load3 (.tmp 41) rfl _ _ e0 (fits_cell ((unhide HL).step hk2).bk 0 _ rfl) ⟨_,rfl,tq_is _ _ _ _ rfl,Kept.refl _ _,fun _ _ _ _ _=>trivial⟩
            | 2,ho,hsk=>
              obtain rfl:=Oj9 ho
              have e0:a'.eval (.tmp 42)= .int .i64 s1.ex:=is_tq (hin 1 42 (by kernel_rfl) (by kernel_rfl)) rfl
              exact c_geq3 (.tmp 42) (.const (.int .i64 (0))) rfl _ _ (true) (unhide HEX) e0 rfl ⟨_,rfl,tq_is _ _ _ _ rfl,Kept.refl _ _,fun _ _ _ _ _=>trivial⟩
            | 3,ho,hsk=>
              obtain rfl:=Oj9 ho
              have e0:a'.eval (.tmp 43)= .bool true:=is_tq (hin 2 43 (by kernel_rfl) (by kernel_rfl)) rfl
              exact wp_move (.tmp 43) rfl _ e0 ⟨_,rfl,tq_is _ _ _ _ rfl,Kept.refl _ _,fun _ _ _ _ _=>trivial⟩
            | 4,ho,hsk=>
              obtain rfl:=Oj9 ho
              exact o_fld43_2 (.tmp 9) rfl q (0) (2) rfl ((hout 9 (by kernel_rfl)).trans rfl) ⟨_,rfl,tq_is _ _ _ _ rfl,Kept.refl _ _,fun _ _ _ _ _=>trivial⟩
            | 5,ho,hsk=>
              obtain rfl:=Oj9 ho
              have e0:a'.eval (.tmp 45)= .pointer (some ⟨q,2,none⟩):=is_tq (hin 4 45 (by kernel_rfl) (by kernel_rfl)) rfl
              exact o_load36 (.tmp 45) rfl _ _ e0 (fits_cell ((unhide HL).step hk2).bk 2 _ rfl) ⟨_,rfl,tq_is _ _ _ _ rfl,Kept.refl _ _,fun _ _ _ _ _=>trivial⟩
            | 6,ho,hsk=>
              obtain rfl:=Oj9 ho
              have e0:a'.eval (.tmp 46)=x:=is_tq (hin 5 46 (by kernel_rfl) (by kernel_rfl)) rfl
              exact o_len36 (.tmp 46) rfl x 0 [] e0 (by have h9:=((unhide HL).step hk2).sh;rw [unhide HSN] at h9;exact h9) ⟨_,rfl,tq_is _ _ _ _ rfl,Kept.refl _ _,fun _ _ _ _ _=>trivial⟩
            | 7,ho,hsk=>
              obtain rfl:=Oj9 ho
              have e0:a'.eval (.tmp 47)= .int .i64 (((0:Nat):Int)):=is_tq (hin 6 47 (by kernel_rfl) (by kernel_rfl)) rfl
              exact c_gtr3 (.tmp 47) (.const (.int .i64 (0))) rfl _ _ (false) (by decide) e0 rfl ⟨_,rfl,tq_is _ _ _ _ rfl,Kept.refl _ _,fun _ _ _ _ _=>trivial⟩
            | 8,ho,hsk=>
              obtain rfl:=Oj9 ho
              have e0:a'.eval (.tmp 48)= .bool false:=is_tq (hin 7 48 (by kernel_rfl) (by kernel_rfl)) rfl
              exact wp_move (.tmp 48) rfl _ e0 ⟨_,rfl,tq_is _ _ _ _ rfl,Kept.refl _ _,fun _ _ _ _ _=>trivial⟩
            | 9,ho,hsk=>
              obtain rfl:=Oj9 ho
              exact o_fld43_1 (.tmp 9) rfl q (0) (1) rfl ((hout 9 (by kernel_rfl)).trans rfl) ⟨_,rfl,tq_is _ _ _ _ rfl,Kept.refl _ _,fun _ _ _ _ _=>trivial⟩
            | 10,ho,hsk=>
              obtain rfl:=Oj9 ho
              have e0:a'.eval (.tmp 50)= .pointer (some ⟨q,1,none⟩):=is_tq (hin 9 50 (by kernel_rfl) (by kernel_rfl)) rfl
              exact o_load3 (.tmp 50) rfl _ _ e0 (fits_cell ((unhide HL).step hk2).bk 1 _ rfl) ⟨_,rfl,tq_is _ _ _ _ rfl,Kept.refl _ _,fun _ _ _ _ _=>trivial⟩
            | 11,ho,hsk=>
              obtain rfl:=Oj9 ho
              exact o_fld43_0 (.tmp 9) rfl q (0) (0) rfl ((hout 9 (by kernel_rfl)).trans rfl) ⟨_,rfl,tq_is _ _ _ _ rfl,Kept.refl _ _,fun _ _ _ _ _=>trivial⟩
            | 12,ho,hsk=>
              obtain rfl:=Oj9 ho
              have e0:a'.eval (.tmp 52)=P0 q:=is_tq (hin 11 52 (by kernel_rfl) (by kernel_rfl)) rfl
              exact o_load3 (.tmp 52) rfl _ _ e0 (fits_cell ((unhide HL).step hk2).bk 0 _ rfl) ⟨_,rfl,tq_is _ _ _ _ rfl,Kept.refl _ _,fun _ _ _ _ _=>trivial⟩
            | 13,ho,hsk=>
              obtain rfl:=Oj9 ho
              have e0:a'.eval (.tmp 51)= .int .i64 s1.ow:=is_tq (hin 10 51 (by kernel_rfl) (by kernel_rfl)) rfl
              have e1:a'.eval (.tmp 53)= .int .i64 s1.ex:=is_tq (hin 12 53 (by kernel_rfl) (by kernel_rfl)) rfl
              exact c_neq3 (.tmp 51) (.tmp 53) rfl _ _ (true) (unhide HOE) e0 e1 ⟨_,rfl,tq_is _ _ _ _ rfl,Kept.refl _ _,fun _ _ _ _ _=>trivial⟩
            | 14,ho,hsk=>
              obtain rfl:=Oj9 ho
              have e0:a'.eval (.tmp 49)= .bool false:=is_tq (hin 8 49 (by kernel_rfl) (by kernel_rfl)) rfl
              have e1:a'.eval (.tmp 54)= .bool false:=is_tq (hin 13 54 (by kernel_rfl) (by kernel_rfl)) rfl
              exact o_pickOr0 (.tmp 49) (.tmp 54) rfl _ e0 e1 ⟨_,rfl,tq_is _ _ _ _ rfl,Kept.refl _ _,fun _ _ _ _ _=>trivial⟩
            | 15,ho,hsk=>
              obtain rfl:=Oj9 ho
              have e0:a'.eval (.tmp 44)= .bool true:=is_tq (hin 3 44 (by kernel_rfl) (by kernel_rfl)) rfl
              have e1:a'.eval (.tmp 55)= .bool false:=is_tq (hin 14 55 (by kernel_rfl) (by kernel_rfl)) rfl
              exact o_pick (.tmp 44) (.tmp 55) rfl _ e0 e1 ⟨_,rfl,tq_is _ _ _ _ rfl,Kept.refl _ _,fun _ _ _ _ _=>trivial⟩
            | 16,ho,hsk=>
              obtain rfl:=Oj9 ho
              have e0:a'.eval (.tmp 56)= .bool false:=is_tq (hin 15 56 (by kernel_rfl) (by kernel_rfl)) rfl
              exact wp_move (.tmp 56) rfl _ e0 ⟨_,rfl,tq_is _ _ _ _ rfl,Kept.refl _ _,fun _ _ _ _ _=>trivial⟩
            | 17,ho,hsk=>
              obtain rfl:=Oj9 ho
              exact o_fld43_8 (.tmp 9) rfl q (0) (16) rfl ((hout 9 (by kernel_rfl)).trans rfl) ⟨_,rfl,tq_is _ _ _ _ rfl,Kept.refl _ _,fun _ _ _ _ _=>trivial⟩
            | 18,ho,hsk=>
              obtain rfl:=Oj9 ho
              have e0:a'.eval (.tmp 58)= .pointer (some ⟨q,16,none⟩):=is_tq (hin 17 58 (by kernel_rfl) (by kernel_rfl)) rfl
              exact o_load2 (.tmp 58) rfl _ _ e0 (fits_cell ((unhide HL).step hk2).bk 16 _ rfl) ⟨_,rfl,tq_is _ _ _ _ rfl,Kept.refl _ _,fun _ _ _ _ _=>trivial⟩
            | 19,ho,hsk=>
              obtain rfl:=Oj9 ho
              exact wp_move (.tmp 5) rfl _ ((hout 5 (by kernel_rfl)).trans rfl) ⟨_,rfl,tq_is _ _ _ _ rfl,Kept.refl _ _,fun _ _ _ _ _=>trivial⟩
            | 20,ho,hsk=>
              obtain rfl:=Oj9 ho
              have e0:a'.eval (.tmp 59)= .int .i64 s1.op:=is_tq (hin 18 59 (by kernel_rfl) (by kernel_rfl)) rfl
              have e1:a'.eval (.tmp 60)= .int .i64 s.op:=is_tq (hin 19 60 (by kernel_rfl) (by kernel_rfl)) rfl
              exact c_lss2 (.tmp 59) (.tmp 60) rfl _ _ (false) (unhide HOP) e0 e1 ⟨_,rfl,tq_is _ _ _ _ rfl,Kept.refl _ _,fun _ _ _ _ _=>trivial⟩
            | 21,ho,hsk=>
              obtain rfl:=Oj9 ho
              have e0:a'.eval (.tmp 57)= .bool false:=is_tq (hin 16 57 (by kernel_rfl) (by kernel_rfl)) rfl
              have e1:a'.eval (.tmp 61)= .bool false:=is_tq (hin 20 61 (by kernel_rfl) (by kernel_rfl)) rfl
              exact o_pickOr0 (.tmp 57) (.tmp 61) rfl _ e0 e1 ⟨_,rfl,tq_is _ _ _ _ rfl,Kept.refl _ _,fun _ _ _ _ _=>trivial⟩
            | 22,ho,hsk=>
              obtain rfl:=Oj9 ho
              have e0:a'.eval (.tmp 62)= .bool false:=is_tq (hin 21 62 (by kernel_rfl) (by kernel_rfl)) rfl
              exact wp_move (.tmp 62) rfl _ e0 ⟨_,rfl,tq_is _ _ _ _ rfl,Kept.refl _ _,fun _ _ _ _ _=>trivial⟩
            | 23,ho,hsk=>
              obtain rfl:=Oj9 ho
              exact o_fld43_7 (.tmp 9) rfl q (0) (15) rfl ((hout 9 (by kernel_rfl)).trans rfl) ⟨_,rfl,tq_is _ _ _ _ rfl,Kept.refl _ _,fun _ _ _ _ _=>trivial⟩
            | 24,ho,hsk=>
              obtain rfl:=Oj9 ho
              have e0:a'.eval (.tmp 64)= .pointer (some ⟨q,15,none⟩):=is_tq (hin 23 64 (by kernel_rfl) (by kernel_rfl)) rfl
              exact o_load4 (.tmp 64) rfl _ _ e0 ((fits_cell ((unhide HL).step hk2).bk 15 _ rfl).trans (by rw [show (s1.book L1).bz=true from unhide HBZ])) ⟨_,rfl,tq_is _ _ _ _ rfl,Kept.refl _ _,fun _ _ _ _ _=>trivial⟩
            | 25,ho,hsk=>
              obtain rfl:=Oj9 ho
              exact wp_move (.tmp 3) rfl _ ((hout 3 (by kernel_rfl)).trans rfl) ⟨_,rfl,tq_is _ _ _ _ rfl,Kept.refl _ _,fun _ _ _ _ _=>trivial⟩
            | 26,ho,hsk=>
              obtain rfl:=Oj9 ho
              have e0:a'.eval (.tmp 66)=P0 b:=is_tq (hin 25 66 (by kernel_rfl) (by kernel_rfl)) rfl
              refine wp_callF 17 _ _ rfl #[P0 b] (by simp [e0]) (cg17 _ _) (((idle17 s1 ln1 b _ ((unhide HL).step hk2).st.du.sb).mono (fun e w' h9=>by rw [show s1.busy=true from unhide HBZ] at h9;exact h9)).mono ?_)
              rintro e w3 ⟨rfl,rfl⟩
              exact⟨_,rfl,_,rfl,tq_is _ _ _ _ rfl,Kept.refl _ _,fun _ _ _ _ _=>trivial⟩
            | 27,ho,hsk=>
              obtain rfl:=Oj9 ho
              have e0:a'.eval (.tmp 65)= .bool true:=is_tq (hin 24 65 (by kernel_rfl) (by kernel_rfl)) rfl
              have e1:a'.eval (.tmp 67)= .bool false:=is_tq (hin 26 67 (by kernel_rfl) (by kernel_rfl)) rfl
              exact c_eql4 (.tmp 65) (.tmp 67) rfl true false false rfl e0 e1 ⟨_,rfl,tq_is _ _ _ _ rfl,Kept.refl _ _,fun _ _ _ _ _=>trivial⟩
            | 28,ho,hsk=>
              obtain rfl:=Oj9 ho
              have e0:a'.eval (.tmp 63)= .bool false:=is_tq (hin 22 63 (by kernel_rfl) (by kernel_rfl)) rfl
              have e1:a'.eval (.tmp 68)= .bool false:=is_tq (hin 27 68 (by kernel_rfl) (by kernel_rfl)) rfl
              exact o_pickOr0 (.tmp 63) (.tmp 68) rfl _ e0 e1 ⟨_,rfl,tq_is _ _ _ _ rfl,Kept.refl _ _,fun _ _ _ _ _=>trivial⟩
            | 29,ho,hsk=>
              obtain rfl:=Oj9 ho
              have e0:a'.eval (.tmp 69)= .bool false:=is_tq (hin 28 69 (by kernel_rfl) (by kernel_rfl)) rfl
              exact wp_move (.tmp 69) rfl _ e0 ⟨_,rfl,tq_is _ _ _ _ rfl,Kept.refl _ _,fun _ _ _ _ _=>trivial⟩
            | 30,ho,hsk=>
              obtain rfl:=Oj9 ho
              exact o_fld43_7 (.tmp 9) rfl q (0) (15) rfl ((hout 9 (by kernel_rfl)).trans rfl) ⟨_,rfl,tq_is _ _ _ _ rfl,Kept.refl _ _,fun _ _ _ _ _=>trivial⟩
            | 31,ho,hsk=>
              obtain rfl:=Oj9 ho
              have e0:a'.eval (.tmp 71)= .pointer (some ⟨q,15,none⟩):=is_tq (hin 30 71 (by kernel_rfl) (by kernel_rfl)) rfl
              exact o_load4 (.tmp 71) rfl _ _ e0 ((fits_cell ((unhide HL).step hk2).bk 15 _ rfl).trans (by rw [show (s1.book L1).bz=true from unhide HBZ])) ⟨_,rfl,tq_is _ _ _ _ rfl,Kept.refl _ _,fun _ _ _ _ _=>trivial⟩
            | 32,ho,hsk=>
              obtain rfl:=Oj9 ho
              have e0:a'.eval (.tmp 72)= .bool true:=is_tq (hin 31 72 (by kernel_rfl) (by kernel_rfl)) rfl
              exact o_not (.tmp 72) rfl (true) e0 ⟨_,rfl,tq_is _ _ _ _ rfl,Kept.refl _ _,fun _ _ _ _ _=>trivial⟩
            | 33,ho,hsk=>
              obtain rfl:=Oj9 ho
              have e0:a'.eval (.tmp 73)= .bool false:=is_tq (hin 32 73 (by kernel_rfl) (by kernel_rfl)) rfl
              exact wp_move (.tmp 73) rfl _ e0 ⟨_,rfl,tq_is _ _ _ _ rfl,Kept.refl _ _,fun _ _ _ _ _=>trivial⟩
            | 34,ho,hsk=>
              cases hsk
            | 35,ho,hsk=>
              cases hsk
            | 36,ho,hsk=>
              cases hsk
            | 37,ho,hsk=>
              cases hsk
            | 38,ho,hsk=>
              obtain rfl:=Oj9 ho
              have e0:a'.eval (.tmp 74)= .bool false:=is_tq (hin 33 74 (by kernel_rfl) (by kernel_rfl)) rfl
              exact o_pickN (.tmp 74) (.tmp 78) rfl e0 ⟨_,rfl,tq_is _ _ _ _ rfl,Kept.refl _ _,fun _ _ _ _ _=>trivial⟩
            | 39,ho,hsk=>
              obtain rfl:=Oj9 ho
              have e0:a'.eval (.tmp 70)= .bool false:=is_tq (hin 29 70 (by kernel_rfl) (by kernel_rfl)) rfl
              have e1:a'.eval (.tmp 79)= .bool false:=is_tq (hin 38 79 (by kernel_rfl) (by kernel_rfl)) rfl
              exact o_pickOr0 (.tmp 70) (.tmp 79) rfl _ e0 e1 ⟨_,rfl,tq_is _ _ _ _ rfl,Kept.refl _ _,fun _ _ _ _ _=>trivial⟩
          intro w9 hk9
          replace hk9:Kept [] W5 w9:=⟨hk9.os,hk9.tape,hk9.output,hk9.size,hk9.block⟩
          simp only [valsQ,List.map_cons,List.map_nil,Option.getD_some,Option.getD_none,List.take_succ_cons,List.take_zero,putAll,Act.put,List.setIfInBounds_toArray,List.set_cons_succ,List.set_cons_zero]
          refine wpAny_done (by kernel_rfl) ?_ _
          go_wp2_with fail
          go_meet
          case rel=>exact ⟨rfl,hide ((unhide HL).step hk9)⟩
         | false=>
          have HLN:=hide ((unhide HL).st.bz hbz)
          have HBZ:=hide hbz
          clear hbz
          refine wp_region_any mixed (wpAny_tq 40 rfl (by kernel_rfl) [some (P0 q),some (.int .i64 s1.ex),some (.bool true),some (.bool true),some (.pointer (some ⟨q,2,none⟩)),some (x),some (.int .i64 (((0:Nat):Int))),some (.bool false),some (.bool false),some (.pointer (some ⟨q,1,none⟩)),some (.int .i64 s1.ow),some (P0 q),some (.int .i64 s1.ex),some (.bool false),some (.bool false),some (.bool false),some (.bool false),some (.pointer (some ⟨q,16,none⟩)),some (.int .i64 s1.op),some (.int .i64 s.op),some (.bool false),some (.bool false),some (.bool false),some (.pointer (some ⟨q,15,none⟩)),some (.bool false),some (P0 b),some (.bool true),some (.bool false),some (.bool false),some (.bool false),some (.pointer (some ⟨q,15,none⟩)),some (.bool false),some (.bool true),some (.bool true),some (.pointer (some ⟨q,12,none⟩)),some (z),some (.int .i64 (((0:Nat):Int))),some (.bool false),some (.bool false),some (.bool false)] rfl (by kernel_rfl) (by kernel_rfl) ?_ ?_)
          · intro i o' hi hsk ho a' w2 hout hin hk2
            replace hk2:Kept [] W5 w2:=⟨hk2.os,hk2.tape,hk2.output,hk2.size,hk2.block⟩
            match i,ho,hsk with
            | 0,ho,hsk=>
              obtain rfl:=Oj9 ho
              exact o_fld43_0 (.tmp 9) rfl q (0) (0) rfl ((hout 9 (by kernel_rfl)).trans rfl) ⟨_,rfl,tq_is _ _ _ _ rfl,Kept.refl _ _,fun _ _ _ _ _=>trivial⟩
            | 1,ho,hsk=>
              obtain rfl:=Oj9 ho
              have e0:a'.eval (.tmp 41)=P0 q:=is_tq (hin 0 41 (by kernel_rfl) (by kernel_rfl)) rfl
              exact o_load3 (.tmp 41) rfl _ _ e0 (fits_cell ((unhide HL).step hk2).bk 0 _ rfl) ⟨_,rfl,tq_is _ _ _ _ rfl,Kept.refl _ _,fun _ _ _ _ _=>trivial⟩
            | 2,ho,hsk=>
              obtain rfl:=Oj9 ho
              have e0:a'.eval (.tmp 42)= .int .i64 s1.ex:=is_tq (hin 1 42 (by kernel_rfl) (by kernel_rfl)) rfl
              exact c_geq3 (.tmp 42) (.const (.int .i64 (0))) rfl _ _ (true) (unhide HEX) e0 rfl ⟨_,rfl,tq_is _ _ _ _ rfl,Kept.refl _ _,fun _ _ _ _ _=>trivial⟩
            | 3,ho,hsk=>
              obtain rfl:=Oj9 ho
              have e0:a'.eval (.tmp 43)= .bool true:=is_tq (hin 2 43 (by kernel_rfl) (by kernel_rfl)) rfl
              exact wp_move (.tmp 43) rfl _ e0 ⟨_,rfl,tq_is _ _ _ _ rfl,Kept.refl _ _,fun _ _ _ _ _=>trivial⟩
            | 4,ho,hsk=>
              obtain rfl:=Oj9 ho
              exact o_fld43_2 (.tmp 9) rfl q (0) (2) rfl ((hout 9 (by kernel_rfl)).trans rfl) ⟨_,rfl,tq_is _ _ _ _ rfl,Kept.refl _ _,fun _ _ _ _ _=>trivial⟩
            | 5,ho,hsk=>
              obtain rfl:=Oj9 ho
              have e0:a'.eval (.tmp 45)= .pointer (some ⟨q,2,none⟩):=is_tq (hin 4 45 (by kernel_rfl) (by kernel_rfl)) rfl
              exact o_load36 (.tmp 45) rfl _ _ e0 (fits_cell ((unhide HL).step hk2).bk 2 _ rfl) ⟨_,rfl,tq_is _ _ _ _ rfl,Kept.refl _ _,fun _ _ _ _ _=>trivial⟩
            | 6,ho,hsk=>
              obtain rfl:=Oj9 ho
              have e0:a'.eval (.tmp 46)=x:=is_tq (hin 5 46 (by kernel_rfl) (by kernel_rfl)) rfl
              exact o_len36 (.tmp 46) rfl x 0 [] e0 (by have h9:=((unhide HL).step hk2).sh;rw [unhide HSN] at h9;exact h9) ⟨_,rfl,tq_is _ _ _ _ rfl,Kept.refl _ _,fun _ _ _ _ _=>trivial⟩
            | 7,ho,hsk=>
              obtain rfl:=Oj9 ho
              have e0:a'.eval (.tmp 47)= .int .i64 (((0:Nat):Int)):=is_tq (hin 6 47 (by kernel_rfl) (by kernel_rfl)) rfl
              exact c_gtr3 (.tmp 47) (.const (.int .i64 (0))) rfl _ _ (false) (by decide) e0 rfl ⟨_,rfl,tq_is _ _ _ _ rfl,Kept.refl _ _,fun _ _ _ _ _=>trivial⟩
            | 8,ho,hsk=>
              obtain rfl:=Oj9 ho
              have e0:a'.eval (.tmp 48)= .bool false:=is_tq (hin 7 48 (by kernel_rfl) (by kernel_rfl)) rfl
              exact wp_move (.tmp 48) rfl _ e0 ⟨_,rfl,tq_is _ _ _ _ rfl,Kept.refl _ _,fun _ _ _ _ _=>trivial⟩
            | 9,ho,hsk=>
              obtain rfl:=Oj9 ho
              exact o_fld43_1 (.tmp 9) rfl q (0) (1) rfl ((hout 9 (by kernel_rfl)).trans rfl) ⟨_,rfl,tq_is _ _ _ _ rfl,Kept.refl _ _,fun _ _ _ _ _=>trivial⟩
            | 10,ho,hsk=>
              obtain rfl:=Oj9 ho
              have e0:a'.eval (.tmp 50)= .pointer (some ⟨q,1,none⟩):=is_tq (hin 9 50 (by kernel_rfl) (by kernel_rfl)) rfl
              exact o_load3 (.tmp 50) rfl _ _ e0 (fits_cell ((unhide HL).step hk2).bk 1 _ rfl) ⟨_,rfl,tq_is _ _ _ _ rfl,Kept.refl _ _,fun _ _ _ _ _=>trivial⟩
            | 11,ho,hsk=>
              obtain rfl:=Oj9 ho
              exact o_fld43_0 (.tmp 9) rfl q (0) (0) rfl ((hout 9 (by kernel_rfl)).trans rfl) ⟨_,rfl,tq_is _ _ _ _ rfl,Kept.refl _ _,fun _ _ _ _ _=>trivial⟩
            | 12,ho,hsk=>
              obtain rfl:=Oj9 ho
              have e0:a'.eval (.tmp 52)=P0 q:=is_tq (hin 11 52 (by kernel_rfl) (by kernel_rfl)) rfl
              exact o_load3 (.tmp 52) rfl _ _ e0 (fits_cell ((unhide HL).step hk2).bk 0 _ rfl) ⟨_,rfl,tq_is _ _ _ _ rfl,Kept.refl _ _,fun _ _ _ _ _=>trivial⟩
            | 13,ho,hsk=>
              obtain rfl:=Oj9 ho
              have e0:a'.eval (.tmp 51)= .int .i64 s1.ow:=is_tq (hin 10 51 (by kernel_rfl) (by kernel_rfl)) rfl
              have e1:a'.eval (.tmp 53)= .int .i64 s1.ex:=is_tq (hin 12 53 (by kernel_rfl) (by kernel_rfl)) rfl
              exact c_neq3 (.tmp 51) (.tmp 53) rfl _ _ (true) (unhide HOE) e0 e1 ⟨_,rfl,tq_is _ _ _ _ rfl,Kept.refl _ _,fun _ _ _ _ _=>trivial⟩
            | 14,ho,hsk=>
              obtain rfl:=Oj9 ho
              have e0:a'.eval (.tmp 49)= .bool false:=is_tq (hin 8 49 (by kernel_rfl) (by kernel_rfl)) rfl
              have e1:a'.eval (.tmp 54)= .bool false:=is_tq (hin 13 54 (by kernel_rfl) (by kernel_rfl)) rfl
              exact o_pickOr0 (.tmp 49) (.tmp 54) rfl _ e0 e1 ⟨_,rfl,tq_is _ _ _ _ rfl,Kept.refl _ _,fun _ _ _ _ _=>trivial⟩
            | 15,ho,hsk=>
              obtain rfl:=Oj9 ho
              have e0:a'.eval (.tmp 44)= .bool true:=is_tq (hin 3 44 (by kernel_rfl) (by kernel_rfl)) rfl
              have e1:a'.eval (.tmp 55)= .bool false:=is_tq (hin 14 55 (by kernel_rfl) (by kernel_rfl)) rfl
              exact o_pick (.tmp 44) (.tmp 55) rfl _ e0 e1 ⟨_,rfl,tq_is _ _ _ _ rfl,Kept.refl _ _,fun _ _ _ _ _=>trivial⟩
            | 16,ho,hsk=>
              obtain rfl:=Oj9 ho
              have e0:a'.eval (.tmp 56)= .bool false:=is_tq (hin 15 56 (by kernel_rfl) (by kernel_rfl)) rfl
              exact wp_move (.tmp 56) rfl _ e0 ⟨_,rfl,tq_is _ _ _ _ rfl,Kept.refl _ _,fun _ _ _ _ _=>trivial⟩
            | 17,ho,hsk=>
              obtain rfl:=Oj9 ho
              exact o_fld43_8 (.tmp 9) rfl q (0) (16) rfl ((hout 9 (by kernel_rfl)).trans rfl) ⟨_,rfl,tq_is _ _ _ _ rfl,Kept.refl _ _,fun _ _ _ _ _=>trivial⟩
            | 18,ho,hsk=>
              obtain rfl:=Oj9 ho
              have e0:a'.eval (.tmp 58)= .pointer (some ⟨q,16,none⟩):=is_tq (hin 17 58 (by kernel_rfl) (by kernel_rfl)) rfl
              exact o_load2 (.tmp 58) rfl _ _ e0 (fits_cell ((unhide HL).step hk2).bk 16 _ rfl) ⟨_,rfl,tq_is _ _ _ _ rfl,Kept.refl _ _,fun _ _ _ _ _=>trivial⟩
            | 19,ho,hsk=>
              obtain rfl:=Oj9 ho
              exact wp_move (.tmp 5) rfl _ ((hout 5 (by kernel_rfl)).trans rfl) ⟨_,rfl,tq_is _ _ _ _ rfl,Kept.refl _ _,fun _ _ _ _ _=>trivial⟩
            | 20,ho,hsk=>
              obtain rfl:=Oj9 ho
              have e0:a'.eval (.tmp 59)= .int .i64 s1.op:=is_tq (hin 18 59 (by kernel_rfl) (by kernel_rfl)) rfl
              have e1:a'.eval (.tmp 60)= .int .i64 s.op:=is_tq (hin 19 60 (by kernel_rfl) (by kernel_rfl)) rfl
              exact c_lss2 (.tmp 59) (.tmp 60) rfl _ _ (false) (unhide HOP) e0 e1 ⟨_,rfl,tq_is _ _ _ _ rfl,Kept.refl _ _,fun _ _ _ _ _=>trivial⟩
            | 21,ho,hsk=>
              obtain rfl:=Oj9 ho
              have e0:a'.eval (.tmp 57)= .bool false:=is_tq (hin 16 57 (by kernel_rfl) (by kernel_rfl)) rfl
              have e1:a'.eval (.tmp 61)= .bool false:=is_tq (hin 20 61 (by kernel_rfl) (by kernel_rfl)) rfl
              exact o_pickOr0 (.tmp 57) (.tmp 61) rfl _ e0 e1 ⟨_,rfl,tq_is _ _ _ _ rfl,Kept.refl _ _,fun _ _ _ _ _=>trivial⟩
            | 22,ho,hsk=>
              obtain rfl:=Oj9 ho
              have e0:a'.eval (.tmp 62)= .bool false:=is_tq (hin 21 62 (by kernel_rfl) (by kernel_rfl)) rfl
              exact wp_move (.tmp 62) rfl _ e0 ⟨_,rfl,tq_is _ _ _ _ rfl,Kept.refl _ _,fun _ _ _ _ _=>trivial⟩
            | 23,ho,hsk=>
              obtain rfl:=Oj9 ho
              exact o_fld43_7 (.tmp 9) rfl q (0) (15) rfl ((hout 9 (by kernel_rfl)).trans rfl) ⟨_,rfl,tq_is _ _ _ _ rfl,Kept.refl _ _,fun _ _ _ _ _=>trivial⟩
            | 24,ho,hsk=>
              obtain rfl:=Oj9 ho
              have e0:a'.eval (.tmp 64)= .pointer (some ⟨q,15,none⟩):=is_tq (hin 23 64 (by kernel_rfl) (by kernel_rfl)) rfl
              exact o_load4 (.tmp 64) rfl _ _ e0 ((fits_cell ((unhide HL).step hk2).bk 15 _ rfl).trans (by rw [show (s1.book L1).bz=false from unhide HBZ])) ⟨_,rfl,tq_is _ _ _ _ rfl,Kept.refl _ _,fun _ _ _ _ _=>trivial⟩
            | 25,ho,hsk=>
              obtain rfl:=Oj9 ho
              exact wp_move (.tmp 3) rfl _ ((hout 3 (by kernel_rfl)).trans rfl) ⟨_,rfl,tq_is _ _ _ _ rfl,Kept.refl _ _,fun _ _ _ _ _=>trivial⟩
            | 26,ho,hsk=>
              obtain rfl:=Oj9 ho
              have e0:a'.eval (.tmp 66)=P0 b:=is_tq (hin 25 66 (by kernel_rfl) (by kernel_rfl)) rfl
              refine wp_callF 17 _ _ rfl #[P0 b] (by simp [e0]) (cg17 _ _) (((idle17 s1 ln1 b _ ((unhide HL).step hk2).st.du.sb).mono (fun e w' h9=>by rw [show s1.busy=false from unhide HBZ] at h9;exact h9)).mono ?_)
              rintro e w3 ⟨rfl,rfl⟩
              exact⟨_,rfl,_,rfl,tq_is _ _ _ _ rfl,Kept.refl _ _,fun _ _ _ _ _=>trivial⟩
            | 27,ho,hsk=>
              obtain rfl:=Oj9 ho
              have e0:a'.eval (.tmp 65)= .bool false:=is_tq (hin 24 65 (by kernel_rfl) (by kernel_rfl)) rfl
              have e1:a'.eval (.tmp 67)= .bool true:=is_tq (hin 26 67 (by kernel_rfl) (by kernel_rfl)) rfl
              exact c_eql4 (.tmp 65) (.tmp 67) rfl false true false rfl e0 e1 ⟨_,rfl,tq_is _ _ _ _ rfl,Kept.refl _ _,fun _ _ _ _ _=>trivial⟩
            | 28,ho,hsk=>
              obtain rfl:=Oj9 ho
              have e0:a'.eval (.tmp 63)= .bool false:=is_tq (hin 22 63 (by kernel_rfl) (by kernel_rfl)) rfl
              have e1:a'.eval (.tmp 68)= .bool false:=is_tq (hin 27 68 (by kernel_rfl) (by kernel_rfl)) rfl
              exact o_pickOr0 (.tmp 63) (.tmp 68) rfl _ e0 e1 ⟨_,rfl,tq_is _ _ _ _ rfl,Kept.refl _ _,fun _ _ _ _ _=>trivial⟩
            | 29,ho,hsk=>
              obtain rfl:=Oj9 ho
              have e0:a'.eval (.tmp 69)= .bool false:=is_tq (hin 28 69 (by kernel_rfl) (by kernel_rfl)) rfl
              exact wp_move (.tmp 69) rfl _ e0 ⟨_,rfl,tq_is _ _ _ _ rfl,Kept.refl _ _,fun _ _ _ _ _=>trivial⟩
            | 30,ho,hsk=>
              obtain rfl:=Oj9 ho
              exact o_fld43_7 (.tmp 9) rfl q (0) (15) rfl ((hout 9 (by kernel_rfl)).trans rfl) ⟨_,rfl,tq_is _ _ _ _ rfl,Kept.refl _ _,fun _ _ _ _ _=>trivial⟩
            | 31,ho,hsk=>
              obtain rfl:=Oj9 ho
              have e0:a'.eval (.tmp 71)= .pointer (some ⟨q,15,none⟩):=is_tq (hin 30 71 (by kernel_rfl) (by kernel_rfl)) rfl
              exact o_load4 (.tmp 71) rfl _ _ e0 ((fits_cell ((unhide HL).step hk2).bk 15 _ rfl).trans (by rw [show (s1.book L1).bz=false from unhide HBZ])) ⟨_,rfl,tq_is _ _ _ _ rfl,Kept.refl _ _,fun _ _ _ _ _=>trivial⟩
            | 32,ho,hsk=>
              obtain rfl:=Oj9 ho
              have e0:a'.eval (.tmp 72)= .bool false:=is_tq (hin 31 72 (by kernel_rfl) (by kernel_rfl)) rfl
              exact o_not (.tmp 72) rfl (false) e0 ⟨_,rfl,tq_is _ _ _ _ rfl,Kept.refl _ _,fun _ _ _ _ _=>trivial⟩
            | 33,ho,hsk=>
              obtain rfl:=Oj9 ho
              have e0:a'.eval (.tmp 73)= .bool true:=is_tq (hin 32 73 (by kernel_rfl) (by kernel_rfl)) rfl
              exact wp_move (.tmp 73) rfl _ e0 ⟨_,rfl,tq_is _ _ _ _ rfl,Kept.refl _ _,fun _ _ _ _ _=>trivial⟩
            | 34,ho,hsk=>
              obtain rfl:=Oj9 ho
              exact o_fld43_5 (.tmp 9) rfl q (0) (12) rfl ((hout 9 (by kernel_rfl)).trans rfl) ⟨_,rfl,tq_is _ _ _ _ rfl,Kept.refl _ _,fun _ _ _ _ _=>trivial⟩
            | 35,ho,hsk=>
              obtain rfl:=Oj9 ho
              have e0:a'.eval (.tmp 75)= .pointer (some ⟨q,12,none⟩):=is_tq (hin 34 75 (by kernel_rfl) (by kernel_rfl)) rfl
              exact o_load38 (.tmp 75) rfl _ _ e0 (fits_cell ((unhide HL).step hk2).bk 12 _ rfl) ⟨_,rfl,tq_is _ _ _ _ rfl,Kept.refl _ _,fun _ _ _ _ _=>trivial⟩
            | 36,ho,hsk=>
              obtain rfl:=Oj9 ho
              have e0:a'.eval (.tmp 76)=z:=is_tq (hin 35 76 (by kernel_rfl) (by kernel_rfl)) rfl
              exact o_len38 (.tmp 76) rfl z 0 [] e0 (by have h9:=((unhide HL).step hk2).li;rw [unhide HLN] at h9;exact h9) ⟨_,rfl,tq_is _ _ _ _ rfl,Kept.refl _ _,fun _ _ _ _ _=>trivial⟩
            | 37,ho,hsk=>
              obtain rfl:=Oj9 ho
              have e0:a'.eval (.tmp 77)= .int .i64 (((0:Nat):Int)):=is_tq (hin 36 77 (by kernel_rfl) (by kernel_rfl)) rfl
              exact c_gtr3 (.tmp 77) (.const (.int .i64 (0))) rfl _ _ (false) (by decide) e0 rfl ⟨_,rfl,tq_is _ _ _ _ rfl,Kept.refl _ _,fun _ _ _ _ _=>trivial⟩
            | 38,ho,hsk=>
              obtain rfl:=Oj9 ho
              have e0:a'.eval (.tmp 74)= .bool true:=is_tq (hin 33 74 (by kernel_rfl) (by kernel_rfl)) rfl
              have e1:a'.eval (.tmp 78)= .bool false:=is_tq (hin 37 78 (by kernel_rfl) (by kernel_rfl)) rfl
              exact o_pick (.tmp 74) (.tmp 78) rfl _ e0 e1 ⟨_,rfl,tq_is _ _ _ _ rfl,Kept.refl _ _,fun _ _ _ _ _=>trivial⟩
            | 39,ho,hsk=>
              obtain rfl:=Oj9 ho
              have e0:a'.eval (.tmp 70)= .bool false:=is_tq (hin 29 70 (by kernel_rfl) (by kernel_rfl)) rfl
              have e1:a'.eval (.tmp 79)= .bool false:=is_tq (hin 38 79 (by kernel_rfl) (by kernel_rfl)) rfl
              exact o_pickOr0 (.tmp 70) (.tmp 79) rfl _ e0 e1 ⟨_,rfl,tq_is _ _ _ _ rfl,Kept.refl _ _,fun _ _ _ _ _=>trivial⟩
          intro w9 hk9
          replace hk9:Kept [] W5 w9:=⟨hk9.os,hk9.tape,hk9.output,hk9.size,hk9.block⟩
          simp only [valsQ,List.map_cons,List.map_nil,Option.getD_some,List.take_succ_cons,List.take_zero,putAll,Act.put,List.setIfInBounds_toArray,List.set_cons_succ,List.set_cons_zero]
          refine wpAny_done (by kernel_rfl) ?_ _
          go_wp2_with fail
          go_meet
          case rel=>exact ⟨rfl,hide ((unhide HL).step hk9)⟩
       · have HEX:Hid (decide (s1.ex≥0)=false):=decide_eq_false hex
         clear hex
         cases hbz:s1.busy with
         | true=>
          have HBZ:=hide hbz
          clear hbz
          refine wp_region_any mixed (wpAny_tq 40 rfl (by kernel_rfl) [some (P0 q),some (.int .i64 s1.ex),some (.bool false),some (.bool false),none,none,none,none,none,none,none,none,none,none,none,some (.bool false),some (.bool false),some (.pointer (some ⟨q,16,none⟩)),some (.int .i64 s1.op),some (.int .i64 s.op),some (.bool false),some (.bool false),some (.bool false),some (.pointer (some ⟨q,15,none⟩)),some (.bool true),some (P0 b),some (.bool false),some (.bool false),some (.bool false),some (.bool false),some (.pointer (some ⟨q,15,none⟩)),some (.bool true),some (.bool false),some (.bool false),none,none,none,none,some (.bool false),some (.bool false)] rfl (by kernel_rfl) (by kernel_rfl) ?_ ?_)
          · intro i o' hi hsk ho a' w2 hout hin hk2
            replace hk2:Kept [] W5 w2:=⟨hk2.os,hk2.tape,hk2.output,hk2.size,hk2.block⟩
            match i,ho,hsk with
            | 0,ho,hsk=>
              obtain rfl:=Oj9 ho
              exact o_fld43_0 (.tmp 9) rfl q (0) (0) rfl ((hout 9 (by kernel_rfl)).trans rfl) ⟨_,rfl,tq_is _ _ _ _ rfl,Kept.refl _ _,fun _ _ _ _ _=>trivial⟩
            | 1,ho,hsk=>
              obtain rfl:=Oj9 ho
              have e0:a'.eval (.tmp 41)=P0 q:=is_tq (hin 0 41 (by kernel_rfl) (by kernel_rfl)) rfl
              exact o_load3 (.tmp 41) rfl _ _ e0 (fits_cell ((unhide HL).step hk2).bk 0 _ rfl) ⟨_,rfl,tq_is _ _ _ _ rfl,Kept.refl _ _,fun _ _ _ _ _=>trivial⟩
            | 2,ho,hsk=>
              obtain rfl:=Oj9 ho
              have e0:a'.eval (.tmp 42)= .int .i64 s1.ex:=is_tq (hin 1 42 (by kernel_rfl) (by kernel_rfl)) rfl
              exact c_geq3 (.tmp 42) (.const (.int .i64 (0))) rfl _ _ (false) (unhide HEX) e0 rfl ⟨_,rfl,tq_is _ _ _ _ rfl,Kept.refl _ _,fun _ _ _ _ _=>trivial⟩
            | 3,ho,hsk=>
              obtain rfl:=Oj9 ho
              have e0:a'.eval (.tmp 43)= .bool false:=is_tq (hin 2 43 (by kernel_rfl) (by kernel_rfl)) rfl
              exact wp_move (.tmp 43) rfl _ e0 ⟨_,rfl,tq_is _ _ _ _ rfl,Kept.refl _ _,fun _ _ _ _ _=>trivial⟩
            | 4,ho,hsk=>
              cases hsk
            | 5,ho,hsk=>
              cases hsk
            | 6,ho,hsk=>
              cases hsk
            | 7,ho,hsk=>
              cases hsk
            | 8,ho,hsk=>
              cases hsk
            | 9,ho,hsk=>
              cases hsk
            | 10,ho,hsk=>
              cases hsk
            | 11,ho,hsk=>
              cases hsk
            | 12,ho,hsk=>
              cases hsk
            | 13,ho,hsk=>
              cases hsk
            | 14,ho,hsk=>
              cases hsk
            | 15,ho,hsk=>
              obtain rfl:=Oj9 ho
              have e0:a'.eval (.tmp 44)= .bool false:=is_tq (hin 3 44 (by kernel_rfl) (by kernel_rfl)) rfl
              exact o_pickN (.tmp 44) (.tmp 55) rfl e0 ⟨_,rfl,tq_is _ _ _ _ rfl,Kept.refl _ _,fun _ _ _ _ _=>trivial⟩
            | 16,ho,hsk=>
              obtain rfl:=Oj9 ho
              have e0:a'.eval (.tmp 56)= .bool false:=is_tq (hin 15 56 (by kernel_rfl) (by kernel_rfl)) rfl
              exact wp_move (.tmp 56) rfl _ e0 ⟨_,rfl,tq_is _ _ _ _ rfl,Kept.refl _ _,fun _ _ _ _ _=>trivial⟩
            | 17,ho,hsk=>
              obtain rfl:=Oj9 ho
              exact o_fld43_8 (.tmp 9) rfl q (0) (16) rfl ((hout 9 (by kernel_rfl)).trans rfl) ⟨_,rfl,tq_is _ _ _ _ rfl,Kept.refl _ _,fun _ _ _ _ _=>trivial⟩
            | 18,ho,hsk=>
              obtain rfl:=Oj9 ho
              have e0:a'.eval (.tmp 58)= .pointer (some ⟨q,16,none⟩):=is_tq (hin 17 58 (by kernel_rfl) (by kernel_rfl)) rfl
              exact o_load2 (.tmp 58) rfl _ _ e0 (fits_cell ((unhide HL).step hk2).bk 16 _ rfl) ⟨_,rfl,tq_is _ _ _ _ rfl,Kept.refl _ _,fun _ _ _ _ _=>trivial⟩
            | 19,ho,hsk=>
              obtain rfl:=Oj9 ho
              exact wp_move (.tmp 5) rfl _ ((hout 5 (by kernel_rfl)).trans rfl) ⟨_,rfl,tq_is _ _ _ _ rfl,Kept.refl _ _,fun _ _ _ _ _=>trivial⟩
            | 20,ho,hsk=>
              obtain rfl:=Oj9 ho
              have e0:a'.eval (.tmp 59)= .int .i64 s1.op:=is_tq (hin 18 59 (by kernel_rfl) (by kernel_rfl)) rfl
              have e1:a'.eval (.tmp 60)= .int .i64 s.op:=is_tq (hin 19 60 (by kernel_rfl) (by kernel_rfl)) rfl
              exact c_lss2 (.tmp 59) (.tmp 60) rfl _ _ (false) (unhide HOP) e0 e1 ⟨_,rfl,tq_is _ _ _ _ rfl,Kept.refl _ _,fun _ _ _ _ _=>trivial⟩
            | 21,ho,hsk=>
              obtain rfl:=Oj9 ho
              have e0:a'.eval (.tmp 57)= .bool false:=is_tq (hin 16 57 (by kernel_rfl) (by kernel_rfl)) rfl
              have e1:a'.eval (.tmp 61)= .bool false:=is_tq (hin 20 61 (by kernel_rfl) (by kernel_rfl)) rfl
              exact o_pickOr0 (.tmp 57) (.tmp 61) rfl _ e0 e1 ⟨_,rfl,tq_is _ _ _ _ rfl,Kept.refl _ _,fun _ _ _ _ _=>trivial⟩
            | 22,ho,hsk=>
              obtain rfl:=Oj9 ho
              have e0:a'.eval (.tmp 62)= .bool false:=is_tq (hin 21 62 (by kernel_rfl) (by kernel_rfl)) rfl
              exact wp_move (.tmp 62) rfl _ e0 ⟨_,rfl,tq_is _ _ _ _ rfl,Kept.refl _ _,fun _ _ _ _ _=>trivial⟩
            | 23,ho,hsk=>
              obtain rfl:=Oj9 ho
              exact o_fld43_7 (.tmp 9) rfl q (0) (15) rfl ((hout 9 (by kernel_rfl)).trans rfl) ⟨_,rfl,tq_is _ _ _ _ rfl,Kept.refl _ _,fun _ _ _ _ _=>trivial⟩
            | 24,ho,hsk=>
              obtain rfl:=Oj9 ho
              have e0:a'.eval (.tmp 64)= .pointer (some ⟨q,15,none⟩):=is_tq (hin 23 64 (by kernel_rfl) (by kernel_rfl)) rfl
              exact o_load4 (.tmp 64) rfl _ _ e0 ((fits_cell ((unhide HL).step hk2).bk 15 _ rfl).trans (by rw [show (s1.book L1).bz=true from unhide HBZ])) ⟨_,rfl,tq_is _ _ _ _ rfl,Kept.refl _ _,fun _ _ _ _ _=>trivial⟩
            | 25,ho,hsk=>
              obtain rfl:=Oj9 ho
              exact wp_move (.tmp 3) rfl _ ((hout 3 (by kernel_rfl)).trans rfl) ⟨_,rfl,tq_is _ _ _ _ rfl,Kept.refl _ _,fun _ _ _ _ _=>trivial⟩
            | 26,ho,hsk=>
              obtain rfl:=Oj9 ho
              have e0:a'.eval (.tmp 66)=P0 b:=is_tq (hin 25 66 (by kernel_rfl) (by kernel_rfl)) rfl
              refine wp_callF 17 _ _ rfl #[P0 b] (by simp [e0]) (cg17 _ _) (((idle17 s1 ln1 b _ ((unhide HL).step hk2).st.du.sb).mono (fun e w' h9=>by rw [show s1.busy=true from unhide HBZ] at h9;exact h9)).mono ?_)
              rintro e w3 ⟨rfl,rfl⟩
              exact⟨_,rfl,_,rfl,tq_is _ _ _ _ rfl,Kept.refl _ _,fun _ _ _ _ _=>trivial⟩
            | 27,ho,hsk=>
              obtain rfl:=Oj9 ho
              have e0:a'.eval (.tmp 65)= .bool true:=is_tq (hin 24 65 (by kernel_rfl) (by kernel_rfl)) rfl
              have e1:a'.eval (.tmp 67)= .bool false:=is_tq (hin 26 67 (by kernel_rfl) (by kernel_rfl)) rfl
              exact c_eql4 (.tmp 65) (.tmp 67) rfl true false false rfl e0 e1 ⟨_,rfl,tq_is _ _ _ _ rfl,Kept.refl _ _,fun _ _ _ _ _=>trivial⟩
            | 28,ho,hsk=>
              obtain rfl:=Oj9 ho
              have e0:a'.eval (.tmp 63)= .bool false:=is_tq (hin 22 63 (by kernel_rfl) (by kernel_rfl)) rfl
              have e1:a'.eval (.tmp 68)= .bool false:=is_tq (hin 27 68 (by kernel_rfl) (by kernel_rfl)) rfl
              exact o_pickOr0 (.tmp 63) (.tmp 68) rfl _ e0 e1 ⟨_,rfl,tq_is _ _ _ _ rfl,Kept.refl _ _,fun _ _ _ _ _=>trivial⟩
            | 29,ho,hsk=>
              obtain rfl:=Oj9 ho
              have e0:a'.eval (.tmp 69)= .bool false:=is_tq (hin 28 69 (by kernel_rfl) (by kernel_rfl)) rfl
              exact wp_move (.tmp 69) rfl _ e0 ⟨_,rfl,tq_is _ _ _ _ rfl,Kept.refl _ _,fun _ _ _ _ _=>trivial⟩
            | 30,ho,hsk=>
              obtain rfl:=Oj9 ho
              exact o_fld43_7 (.tmp 9) rfl q (0) (15) rfl ((hout 9 (by kernel_rfl)).trans rfl) ⟨_,rfl,tq_is _ _ _ _ rfl,Kept.refl _ _,fun _ _ _ _ _=>trivial⟩
            | 31,ho,hsk=>
              obtain rfl:=Oj9 ho
              have e0:a'.eval (.tmp 71)= .pointer (some ⟨q,15,none⟩):=is_tq (hin 30 71 (by kernel_rfl) (by kernel_rfl)) rfl
              exact o_load4 (.tmp 71) rfl _ _ e0 ((fits_cell ((unhide HL).step hk2).bk 15 _ rfl).trans (by rw [show (s1.book L1).bz=true from unhide HBZ])) ⟨_,rfl,tq_is _ _ _ _ rfl,Kept.refl _ _,fun _ _ _ _ _=>trivial⟩
            | 32,ho,hsk=>
              obtain rfl:=Oj9 ho
              have e0:a'.eval (.tmp 72)= .bool true:=is_tq (hin 31 72 (by kernel_rfl) (by kernel_rfl)) rfl
              exact o_not (.tmp 72) rfl (true) e0 ⟨_,rfl,tq_is _ _ _ _ rfl,Kept.refl _ _,fun _ _ _ _ _=>trivial⟩
            | 33,ho,hsk=>
              obtain rfl:=Oj9 ho
              have e0:a'.eval (.tmp 73)= .bool false:=is_tq (hin 32 73 (by kernel_rfl) (by kernel_rfl)) rfl
              exact wp_move (.tmp 73) rfl _ e0 ⟨_,rfl,tq_is _ _ _ _ rfl,Kept.refl _ _,fun _ _ _ _ _=>trivial⟩
            | 34,ho,hsk=>
              cases hsk
            | 35,ho,hsk=>
              cases hsk
            | 36,ho,hsk=>
              cases hsk
            | 37,ho,hsk=>
              cases hsk
            | 38,ho,hsk=>
              obtain rfl:=Oj9 ho
              have e0:a'.eval (.tmp 74)= .bool false:=is_tq (hin 33 74 (by kernel_rfl) (by kernel_rfl)) rfl
              exact o_pickN (.tmp 74) (.tmp 78) rfl e0 ⟨_,rfl,tq_is _ _ _ _ rfl,Kept.refl _ _,fun _ _ _ _ _=>trivial⟩
            | 39,ho,hsk=>
              obtain rfl:=Oj9 ho
              have e0:a'.eval (.tmp 70)= .bool false:=is_tq (hin 29 70 (by kernel_rfl) (by kernel_rfl)) rfl
              have e1:a'.eval (.tmp 79)= .bool false:=is_tq (hin 38 79 (by kernel_rfl) (by kernel_rfl)) rfl
              exact o_pickOr0 (.tmp 70) (.tmp 79) rfl _ e0 e1 ⟨_,rfl,tq_is _ _ _ _ rfl,Kept.refl _ _,fun _ _ _ _ _=>trivial⟩
          intro w9 hk9
          replace hk9:Kept [] W5 w9:=⟨hk9.os,hk9.tape,hk9.output,hk9.size,hk9.block⟩
          simp only [valsQ,List.map_cons,List.map_nil,Option.getD_some,Option.getD_none,List.take_succ_cons,List.take_zero,putAll,Act.put,List.setIfInBounds_toArray,List.set_cons_succ,List.set_cons_zero]
          refine wpAny_done (by kernel_rfl) ?_ _
          go_wp2_with fail
          go_meet
          case rel=>exact ⟨rfl,hide ((unhide HL).step hk9)⟩
         | false=>
          have HLN:=hide ((unhide HL).st.bz hbz)
          have HBZ:=hide hbz
          clear hbz
          refine wp_region_any mixed (wpAny_tq 40 rfl (by kernel_rfl) [some (P0 q),some (.int .i64 s1.ex),some (.bool false),some (.bool false),none,none,none,none,none,none,none,none,none,none,none,some (.bool false),some (.bool false),some (.pointer (some ⟨q,16,none⟩)),some (.int .i64 s1.op),some (.int .i64 s.op),some (.bool false),some (.bool false),some (.bool false),some (.pointer (some ⟨q,15,none⟩)),some (.bool false),some (P0 b),some (.bool true),some (.bool false),some (.bool false),some (.bool false),some (.pointer (some ⟨q,15,none⟩)),some (.bool false),some (.bool true),some (.bool true),some (.pointer (some ⟨q,12,none⟩)),some (z),some (.int .i64 (((0:Nat):Int))),some (.bool false),some (.bool false),some (.bool false)] rfl (by kernel_rfl) (by kernel_rfl) ?_ ?_)
          · intro i o' hi hsk ho a' w2 hout hin hk2
            replace hk2:Kept [] W5 w2:=⟨hk2.os,hk2.tape,hk2.output,hk2.size,hk2.block⟩
            match i,ho,hsk with
            | 0,ho,hsk=>
              obtain rfl:=Oj9 ho
              exact o_fld43_0 (.tmp 9) rfl q (0) (0) rfl ((hout 9 (by kernel_rfl)).trans rfl) ⟨_,rfl,tq_is _ _ _ _ rfl,Kept.refl _ _,fun _ _ _ _ _=>trivial⟩
            | 1,ho,hsk=>
              obtain rfl:=Oj9 ho
              have e0:a'.eval (.tmp 41)=P0 q:=is_tq (hin 0 41 (by kernel_rfl) (by kernel_rfl)) rfl
              exact o_load3 (.tmp 41) rfl _ _ e0 (fits_cell ((unhide HL).step hk2).bk 0 _ rfl) ⟨_,rfl,tq_is _ _ _ _ rfl,Kept.refl _ _,fun _ _ _ _ _=>trivial⟩
            | 2,ho,hsk=>
              obtain rfl:=Oj9 ho
              have e0:a'.eval (.tmp 42)= .int .i64 s1.ex:=is_tq (hin 1 42 (by kernel_rfl) (by kernel_rfl)) rfl
              exact c_geq3 (.tmp 42) (.const (.int .i64 (0))) rfl _ _ (false) (unhide HEX) e0 rfl ⟨_,rfl,tq_is _ _ _ _ rfl,Kept.refl _ _,fun _ _ _ _ _=>trivial⟩
            | 3,ho,hsk=>
              obtain rfl:=Oj9 ho
              have e0:a'.eval (.tmp 43)= .bool false:=is_tq (hin 2 43 (by kernel_rfl) (by kernel_rfl)) rfl
              exact wp_move (.tmp 43) rfl _ e0 ⟨_,rfl,tq_is _ _ _ _ rfl,Kept.refl _ _,fun _ _ _ _ _=>trivial⟩
            | 4,ho,hsk=>
              cases hsk
            | 5,ho,hsk=>
              cases hsk
            | 6,ho,hsk=>
              cases hsk
            | 7,ho,hsk=>
              cases hsk
            | 8,ho,hsk=>
              cases hsk
            | 9,ho,hsk=>
              cases hsk
            | 10,ho,hsk=>
              cases hsk
            | 11,ho,hsk=>
              cases hsk
            | 12,ho,hsk=>
              cases hsk
            | 13,ho,hsk=>
              cases hsk
            | 14,ho,hsk=>
              cases hsk
            | 15,ho,hsk=>
              obtain rfl:=Oj9 ho
              have e0:a'.eval (.tmp 44)= .bool false:=is_tq (hin 3 44 (by kernel_rfl) (by kernel_rfl)) rfl
              exact o_pickN (.tmp 44) (.tmp 55) rfl e0 ⟨_,rfl,tq_is _ _ _ _ rfl,Kept.refl _ _,fun _ _ _ _ _=>trivial⟩
            | 16,ho,hsk=>
              obtain rfl:=Oj9 ho
              have e0:a'.eval (.tmp 56)= .bool false:=is_tq (hin 15 56 (by kernel_rfl) (by kernel_rfl)) rfl
              exact wp_move (.tmp 56) rfl _ e0 ⟨_,rfl,tq_is _ _ _ _ rfl,Kept.refl _ _,fun _ _ _ _ _=>trivial⟩
            | 17,ho,hsk=>
              obtain rfl:=Oj9 ho
              exact o_fld43_8 (.tmp 9) rfl q (0) (16) rfl ((hout 9 (by kernel_rfl)).trans rfl) ⟨_,rfl,tq_is _ _ _ _ rfl,Kept.refl _ _,fun _ _ _ _ _=>trivial⟩
            | 18,ho,hsk=>
              obtain rfl:=Oj9 ho
              have e0:a'.eval (.tmp 58)= .pointer (some ⟨q,16,none⟩):=is_tq (hin 17 58 (by kernel_rfl) (by kernel_rfl)) rfl
              exact o_load2 (.tmp 58) rfl _ _ e0 (fits_cell ((unhide HL).step hk2).bk 16 _ rfl) ⟨_,rfl,tq_is _ _ _ _ rfl,Kept.refl _ _,fun _ _ _ _ _=>trivial⟩
            | 19,ho,hsk=>
              obtain rfl:=Oj9 ho
              exact wp_move (.tmp 5) rfl _ ((hout 5 (by kernel_rfl)).trans rfl) ⟨_,rfl,tq_is _ _ _ _ rfl,Kept.refl _ _,fun _ _ _ _ _=>trivial⟩
            | 20,ho,hsk=>
              obtain rfl:=Oj9 ho
              have e0:a'.eval (.tmp 59)= .int .i64 s1.op:=is_tq (hin 18 59 (by kernel_rfl) (by kernel_rfl)) rfl
              have e1:a'.eval (.tmp 60)= .int .i64 s.op:=is_tq (hin 19 60 (by kernel_rfl) (by kernel_rfl)) rfl
              exact c_lss2 (.tmp 59) (.tmp 60) rfl _ _ (false) (unhide HOP) e0 e1 ⟨_,rfl,tq_is _ _ _ _ rfl,Kept.refl _ _,fun _ _ _ _ _=>trivial⟩
            | 21,ho,hsk=>
              obtain rfl:=Oj9 ho
              have e0:a'.eval (.tmp 57)= .bool false:=is_tq (hin 16 57 (by kernel_rfl) (by kernel_rfl)) rfl
              have e1:a'.eval (.tmp 61)= .bool false:=is_tq (hin 20 61 (by kernel_rfl) (by kernel_rfl)) rfl
              exact o_pickOr0 (.tmp 57) (.tmp 61) rfl _ e0 e1 ⟨_,rfl,tq_is _ _ _ _ rfl,Kept.refl _ _,fun _ _ _ _ _=>trivial⟩
            | 22,ho,hsk=>
              obtain rfl:=Oj9 ho
              have e0:a'.eval (.tmp 62)= .bool false:=is_tq (hin 21 62 (by kernel_rfl) (by kernel_rfl)) rfl
              exact wp_move (.tmp 62) rfl _ e0 ⟨_,rfl,tq_is _ _ _ _ rfl,Kept.refl _ _,fun _ _ _ _ _=>trivial⟩
            | 23,ho,hsk=>
              obtain rfl:=Oj9 ho
              exact o_fld43_7 (.tmp 9) rfl q (0) (15) rfl ((hout 9 (by kernel_rfl)).trans rfl) ⟨_,rfl,tq_is _ _ _ _ rfl,Kept.refl _ _,fun _ _ _ _ _=>trivial⟩
            | 24,ho,hsk=>
              obtain rfl:=Oj9 ho
              have e0:a'.eval (.tmp 64)= .pointer (some ⟨q,15,none⟩):=is_tq (hin 23 64 (by kernel_rfl) (by kernel_rfl)) rfl
              exact o_load4 (.tmp 64) rfl _ _ e0 ((fits_cell ((unhide HL).step hk2).bk 15 _ rfl).trans (by rw [show (s1.book L1).bz=false from unhide HBZ])) ⟨_,rfl,tq_is _ _ _ _ rfl,Kept.refl _ _,fun _ _ _ _ _=>trivial⟩
            | 25,ho,hsk=>
              obtain rfl:=Oj9 ho
              exact wp_move (.tmp 3) rfl _ ((hout 3 (by kernel_rfl)).trans rfl) ⟨_,rfl,tq_is _ _ _ _ rfl,Kept.refl _ _,fun _ _ _ _ _=>trivial⟩
            | 26,ho,hsk=>
              obtain rfl:=Oj9 ho
              have e0:a'.eval (.tmp 66)=P0 b:=is_tq (hin 25 66 (by kernel_rfl) (by kernel_rfl)) rfl
              refine wp_callF 17 _ _ rfl #[P0 b] (by simp [e0]) (cg17 _ _) (((idle17 s1 ln1 b _ ((unhide HL).step hk2).st.du.sb).mono (fun e w' h9=>by rw [show s1.busy=false from unhide HBZ] at h9;exact h9)).mono ?_)
              rintro e w3 ⟨rfl,rfl⟩
              exact⟨_,rfl,_,rfl,tq_is _ _ _ _ rfl,Kept.refl _ _,fun _ _ _ _ _=>trivial⟩
            | 27,ho,hsk=>
              obtain rfl:=Oj9 ho
              have e0:a'.eval (.tmp 65)= .bool false:=is_tq (hin 24 65 (by kernel_rfl) (by kernel_rfl)) rfl
              have e1:a'.eval (.tmp 67)= .bool true:=is_tq (hin 26 67 (by kernel_rfl) (by kernel_rfl)) rfl
              exact c_eql4 (.tmp 65) (.tmp 67) rfl false true false rfl e0 e1 ⟨_,rfl,tq_is _ _ _ _ rfl,Kept.refl _ _,fun _ _ _ _ _=>trivial⟩
            | 28,ho,hsk=>
              obtain rfl:=Oj9 ho
              have e0:a'.eval (.tmp 63)= .bool false:=is_tq (hin 22 63 (by kernel_rfl) (by kernel_rfl)) rfl
              have e1:a'.eval (.tmp 68)= .bool false:=is_tq (hin 27 68 (by kernel_rfl) (by kernel_rfl)) rfl
              exact o_pickOr0 (.tmp 63) (.tmp 68) rfl _ e0 e1 ⟨_,rfl,tq_is _ _ _ _ rfl,Kept.refl _ _,fun _ _ _ _ _=>trivial⟩
            | 29,ho,hsk=>
              obtain rfl:=Oj9 ho
              have e0:a'.eval (.tmp 69)= .bool false:=is_tq (hin 28 69 (by kernel_rfl) (by kernel_rfl)) rfl
              exact wp_move (.tmp 69) rfl _ e0 ⟨_,rfl,tq_is _ _ _ _ rfl,Kept.refl _ _,fun _ _ _ _ _=>trivial⟩
            | 30,ho,hsk=>
              obtain rfl:=Oj9 ho
              exact o_fld43_7 (.tmp 9) rfl q (0) (15) rfl ((hout 9 (by kernel_rfl)).trans rfl) ⟨_,rfl,tq_is _ _ _ _ rfl,Kept.refl _ _,fun _ _ _ _ _=>trivial⟩
            | 31,ho,hsk=>
              obtain rfl:=Oj9 ho
              have e0:a'.eval (.tmp 71)= .pointer (some ⟨q,15,none⟩):=is_tq (hin 30 71 (by kernel_rfl) (by kernel_rfl)) rfl
              exact o_load4 (.tmp 71) rfl _ _ e0 ((fits_cell ((unhide HL).step hk2).bk 15 _ rfl).trans (by rw [show (s1.book L1).bz=false from unhide HBZ])) ⟨_,rfl,tq_is _ _ _ _ rfl,Kept.refl _ _,fun _ _ _ _ _=>trivial⟩
            | 32,ho,hsk=>
              obtain rfl:=Oj9 ho
              have e0:a'.eval (.tmp 72)= .bool false:=is_tq (hin 31 72 (by kernel_rfl) (by kernel_rfl)) rfl
              exact o_not (.tmp 72) rfl (false) e0 ⟨_,rfl,tq_is _ _ _ _ rfl,Kept.refl _ _,fun _ _ _ _ _=>trivial⟩
            | 33,ho,hsk=>
              obtain rfl:=Oj9 ho
              have e0:a'.eval (.tmp 73)= .bool true:=is_tq (hin 32 73 (by kernel_rfl) (by kernel_rfl)) rfl
              exact wp_move (.tmp 73) rfl _ e0 ⟨_,rfl,tq_is _ _ _ _ rfl,Kept.refl _ _,fun _ _ _ _ _=>trivial⟩
            | 34,ho,hsk=>
              obtain rfl:=Oj9 ho
              exact o_fld43_5 (.tmp 9) rfl q (0) (12) rfl ((hout 9 (by kernel_rfl)).trans rfl) ⟨_,rfl,tq_is _ _ _ _ rfl,Kept.refl _ _,fun _ _ _ _ _=>trivial⟩
            | 35,ho,hsk=>
              obtain rfl:=Oj9 ho
              have e0:a'.eval (.tmp 75)= .pointer (some ⟨q,12,none⟩):=is_tq (hin 34 75 (by kernel_rfl) (by kernel_rfl)) rfl
              exact o_load38 (.tmp 75) rfl _ _ e0 (fits_cell ((unhide HL).step hk2).bk 12 _ rfl) ⟨_,rfl,tq_is _ _ _ _ rfl,Kept.refl _ _,fun _ _ _ _ _=>trivial⟩
            | 36,ho,hsk=>
              obtain rfl:=Oj9 ho
              have e0:a'.eval (.tmp 76)=z:=is_tq (hin 35 76 (by kernel_rfl) (by kernel_rfl)) rfl
              exact o_len38 (.tmp 76) rfl z 0 [] e0 (by have h9:=((unhide HL).step hk2).li;rw [unhide HLN] at h9;exact h9) ⟨_,rfl,tq_is _ _ _ _ rfl,Kept.refl _ _,fun _ _ _ _ _=>trivial⟩
            | 37,ho,hsk=>
              obtain rfl:=Oj9 ho
              have e0:a'.eval (.tmp 77)= .int .i64 (((0:Nat):Int)):=is_tq (hin 36 77 (by kernel_rfl) (by kernel_rfl)) rfl
              exact c_gtr3 (.tmp 77) (.const (.int .i64 (0))) rfl _ _ (false) (by decide) e0 rfl ⟨_,rfl,tq_is _ _ _ _ rfl,Kept.refl _ _,fun _ _ _ _ _=>trivial⟩
            | 38,ho,hsk=>
              obtain rfl:=Oj9 ho
              have e0:a'.eval (.tmp 74)= .bool true:=is_tq (hin 33 74 (by kernel_rfl) (by kernel_rfl)) rfl
              have e1:a'.eval (.tmp 78)= .bool false:=is_tq (hin 37 78 (by kernel_rfl) (by kernel_rfl)) rfl
              exact o_pick (.tmp 74) (.tmp 78) rfl _ e0 e1 ⟨_,rfl,tq_is _ _ _ _ rfl,Kept.refl _ _,fun _ _ _ _ _=>trivial⟩
            | 39,ho,hsk=>
              obtain rfl:=Oj9 ho
              have e0:a'.eval (.tmp 70)= .bool false:=is_tq (hin 29 70 (by kernel_rfl) (by kernel_rfl)) rfl
              have e1:a'.eval (.tmp 79)= .bool false:=is_tq (hin 38 79 (by kernel_rfl) (by kernel_rfl)) rfl
              exact o_pickOr0 (.tmp 70) (.tmp 79) rfl _ e0 e1 ⟨_,rfl,tq_is _ _ _ _ rfl,Kept.refl _ _,fun _ _ _ _ _=>trivial⟩
          intro w9 hk9
          replace hk9:Kept [] W5 w9:=⟨hk9.os,hk9.tape,hk9.output,hk9.size,hk9.block⟩
          simp only [valsQ,List.map_cons,List.map_nil,Option.getD_some,Option.getD_none,List.take_succ_cons,List.take_zero,putAll,Act.put,List.setIfInBounds_toArray,List.set_cons_succ,List.set_cons_zero]
          refine wpAny_done (by kernel_rfl) ?_ _
          go_wp2_with fail
          go_meet
          case rel=>exact ⟨rfl,hide ((unhide HL).step hk9)⟩
     case rest=>
       clear HL HOP
       obtain⟨rfl,HL⟩:=hcut
       have c16:wc.cell? ⟨q,16,none⟩=some (.int .i64 s1.op):=fits_cell (unhide HL).bk 16 _ rfl
       have HQ:Hid (Lq w wc b c (j+1) s1 L1 r1 R1 ln1 lr1 v O1):=⟨(unhide HL).st,(unhide HL).out⟩
       have hO1:=(unhide HL).out.le
       obtain⟨vo,vc,rfl,_,_⟩:=(unhide HL).out.sl
       clear HL
       go_wp2_with fail
       clear c16
       go_loopw [10] (fun xk wr=>∃k:Nat,k≤O1.length∧xk= .int .i64 k∧Hid (Lq w wr b c (j+1) s1 L1 r1 R1 ln1 lr1 (.slice vo O1.length vc) O1)) (fun xk _=>O1.length-(intOf xk).toNat)
       case atStart=>exact ⟨0,by omega,rfl,HQ⟩
       case round=>
         clear HQ
         obtain⟨k,hk,rfl,HQ⟩:=hrel
         by_cases hkl:k<O1.length
         · have hdk:decide ((k:Int)<(O1.length:Int))=true:=by simp;omega
           obtain⟨od,hod⟩:∃x,O1[k]?=some x:=⟨_,List.getElem?_eq_getElem hkl⟩
           have HOK:=hide hod
           have HGO:=hide (unhide HGD od (List.mem_of_getElem? hod))
           clear hod
           go_wp2_with (first |(refine wpIdxO rfl (.tmp 89) (.tmp 90) rfl (.slice vo O1.length vc) O1 k od rfl rfl (unhide HQ).out (unhide HOK) ?_;intro g9 o9 HR9;refine Stp.go ?_))
           constructor
           go_wp2_with (first |(refine wpLoadA row65 rfl (.tmp 91) rfl g9 o9 rfl od.C rfl HR9 ?_;clear HR9;refine Stp.go ?_))
           constructor
           go_wp2_with (first |(refine wpNew row65 od0.C rfl zero65 11 rfl rfl rfl (.tmp 92) rfl rfl rfl od.C rfl (Od.one _) (by kernel_rfl) (by kernel_rfl) ?_;intro W6 q6 e6 B6 K6;replace HQ:Hid (Lq w W6 b c (j+1) s1 L1 r1 R1 ln1 lr1 (.slice vo O1.length vc) O1):=hide ((unhide HQ).step K6);have c0:W6.cell? ⟨q6,0,none⟩=some (.int .i64 od.k):=fits_cell B6 0 _ rfl;have c1:W6.cell? ⟨q6,1,none⟩=some (.int .i64 od.t):=fits_cell B6 1 _ rfl;have c2:W6.cell? ⟨q6,2,none⟩=some (.int .i64 od.o):=fits_cell B6 2 _ rfl;have c3:W6.cell? ⟨q6,3,none⟩=some (.int .i64 od.m):=fits_cell B6 3 _ rfl;have c4:W6.cell? ⟨q6,4,none⟩=some (.int .i64 od.n):=fits_cell B6 4 _ rfl;have HBO:=hide B6;clear e6 B6 K6;refine Stp.go ?_))
           constructor
           by_cases h6:od.k=6
           · have ho:=(unhide HGO).d h6
             have h1:¬od.k=1:=by omega
             have h3:¬od.k=3:=by omega
             have hoa:=eqt_a ho
             have hob:=eqt_b ho
             have hoc:=eqt_c ho
             have h6a:=eqt_a h6
             have h6b:=eqt_b h6
             have h6c:=eqt_c h6
             have h1a:=nef_a h1
             have h1b:=nef_b h1
             have h1c:=nef_c h1
             have h3a:=nef_a h3
             have h3b:=nef_b h3
             have h3c:=nef_c h3
             clear h6 ho h1 h3
             go_wp2_with fail
             go_roundw
             case rel=>exact ⟨k+1,by omega,by go_num,HQ⟩
             case measure=>simp [intOf];omega
           have hq:=(unhide HGO).n h6
           have hq1:decide (od.o<1)=false:=by simp;omega
           have hq2:decide (s1.op<od.o)=false:=by simp;omega
           have hq3:decide (od.o>s1.op)=false:=by simp;omega
           have h6a:=nef_a h6
           have h6b:=nef_b h6
           have h6c:=nef_c h6
           by_cases h1:od.k=1
           · by_cases h2:od.m=2
             · have HWH:Hid (∀n,n<8→s1.ho n=true→(n:Int)=od.t∨(od.k=3∧(n:Int)=od.n)):=(unhide HGO).x (.inl ⟨h1,h2⟩)
               have h1a:=eqt_a h1
               have h1b:=eqt_b h1
               have h1c:=eqt_c h1
               have h2a:=eqt_a h2
               have h2b:=eqt_b h2
               have h2c:=eqt_c h2
               have H1:=hide h1
               clear h6 hq h2 h1
               go_wp2_with fail
               clear c2 c3
               go_quiet (fail)
               generalize hV9:World.drewN W6 _=V7
               have hV7:Kept [] W6 V7:=by rw [← hV9];exact kept_drewN _ _ _
               clear hV9 c0 c1 c4
               replace HQ:Hid (Lq w V7 b c (j+1) s1 L1 r1 R1 ln1 lr1 (.slice vo O1.length vc) O1):=hide ((unhide HQ).step hV7)
               replace HBO:=hide ((unhide HBO).kept hV7 (by simp))
               have c0:V7.cell? ⟨q6,0,none⟩=some (.int .i64 od.k):=fits_cell (unhide HBO) 0 _ rfl
               have c1:V7.cell? ⟨q6,1,none⟩=some (.int .i64 od.t):=fits_cell (unhide HBO) 1 _ rfl
               have c4:V7.cell? ⟨q6,4,none⟩=some (.int .i64 od.n):=fits_cell (unhide HBO) 4 _ rfl
               clear hV7
               go_wp2_with fail
               go_quiet (fail)
               generalize hV9:World.drewN V7 _=V8
               have hV8:Kept [] V7 V8:=by rw [← hV9];exact kept_drewN _ _ _
               clear hV9 c0 c1 c4
               replace HQ:Hid (Lq w V8 b c (j+1) s1 L1 r1 R1 ln1 lr1 (.slice vo O1.length vc) O1):=hide ((unhide HQ).step hV8)
               replace HBO:=hide ((unhide HBO).kept hV8 (by simp))
               have c0:V8.cell? ⟨q6,0,none⟩=some (.int .i64 od.k):=fits_cell (unhide HBO) 0 _ rfl
               have c1:V8.cell? ⟨q6,1,none⟩=some (.int .i64 od.t):=fits_cell (unhide HBO) 1 _ rfl
               have c4:V8.cell? ⟨q6,4,none⟩=some (.int .i64 od.n):=fits_cell (unhide HBO) 4 _ rfl
               clear hV8
               clear c0 c1 c4
               go_wp2_with fail
               go_loopw [14] (fun xn wr=>∃n:Nat,n≤8∧xn= .int .i64 n∧Hid (Lq w wr b c (j+1) s1 L1 r1 R1 ln1 lr1 (.slice vo O1.length vc) O1)) (fun xn _=>8-(intOf xn).toNat)
               case atStart=>exact ⟨0,by omega,rfl,HQ⟩
               case round=>
                 clear HQ
                 obtain⟨n,hn,rfl,HQ⟩:=hrel
                 by_cases hn8:n<8
                 · have hd8:decide ((n:Int)<8)=true:=by simp;omega
                   cases hh:s1.ho n with
                   | false=>
                     obtain⟨m9,hm9⟩:∃m9,holdsP s1 (n:Int)=(m9,false):=⟨_,Prod.ext rfl (holdsP_no hh)⟩
                     clear hh
                     have P18:=hide (show Calls Try.prog 18 #[P0 b,.int .i64 (n:Int)] wr fun e w'=>e= .returned (.tuple #[.int .i64 m9,.bool false])∧w'=wr from by have h9:=holds18 s1 ln1 b (n:Int) wr (unhide HQ).st.du.sb;rw [hm9] at h9;exact h9)
                     clear hm9
                     go_wp2_with (first |(go_at_call 18;refine(unhide P18).mono ?_;rintro e W8 ⟨rfl,q8⟩;replace q8:=q8.symm;subst q8;refine Stp.go ?_))
                     constructor
                     go_wp2_with fail
                     go_roundw
                     case rel=>exact ⟨n+1,by omega,by go_num,HQ⟩
                     case measure=>simp [intOf];omega
                   | true=>
                     have hw:=unhide HWH n hn8 hh
                     obtain⟨m9,hm9⟩:∃m9,holdsP s1 (n:Int)=(m9,true):=⟨_,Prod.ext rfl (holdsP_yes hn8 hh)⟩
                     clear hh
                     have P18:=hide (show Calls Try.prog 18 #[P0 b,.int .i64 (n:Int)] wr fun e w'=>e= .returned (.tuple #[.int .i64 m9,.bool true])∧w'=wr from by have h9:=holds18 s1 ln1 b (n:Int) wr (unhide HQ).st.du.sb;rw [hm9] at h9;exact h9)
                     clear hm9
                     by_cases e1:(n:Int)=od.t
                     · have e1a:=eqt_a e1
                       have e1b:=eqt_b e1
                       have e1c:=eqt_c e1
                       clear e1 hw
                       go_wp2_with (first |(go_at_call 18;refine(unhide P18).mono ?_;rintro e W8 ⟨rfl,q8⟩;replace q8:=q8.symm;subst q8;refine Stp.go ?_))
                       constructor
                       go_wp2_with fail
                       go_roundw
                       case rel=>exact ⟨n+1,by omega,by go_num,HQ⟩
                       case measure=>simp [intOf];omega
                     · exact absurd (hw.resolve_right (fun h=>by have:=h.1;have:=unhide H1;omega)) e1
                 · obtain rfl:n=8:=by omega
                   have hd8:decide (((8:Nat):Int)<8)=false:=by decide
                   go_wp2_with fail
                   go_roundw
                   case rel=>exact ⟨k+1,by omega,by go_num,HQ⟩
                   case measure=>simp [intOf];omega
             · have h3:¬od.k=3:=by omega
               have h1a:=eqt_a h1
               have h1b:=eqt_b h1
               have h1c:=eqt_c h1
               have h2a:=nef_a h2
               have h2b:=nef_b h2
               have h2c:=nef_c h2
               have h3a:=nef_a h3
               have h3b:=nef_b h3
               have h3c:=nef_c h3
               clear h6 h1 h3 hq h2
               go_wp2_with fail
               go_roundw
               case rel=>exact ⟨k+1,by omega,by go_num,HQ⟩
               case measure=>simp [intOf];omega
           · by_cases h3:od.k=3
             · have HWH:Hid (∀n,n<8→s1.ho n=true→(n:Int)=od.t∨(od.k=3∧(n:Int)=od.n)):=(unhide HGO).x (.inr h3)
               have h1a:=nef_a h1
               have h1b:=nef_b h1
               have h1c:=nef_c h1
               have h3a:=eqt_a h3
               have h3b:=eqt_b h3
               have h3c:=eqt_c h3
               clear h6 hq h1 h3
               go_wp2_with fail
               clear c2 c3
               go_quiet (fail)
               generalize hV9:World.drewN W6 _=V7
               have hV7:Kept [] W6 V7:=by rw [← hV9];exact kept_drewN _ _ _
               clear hV9 c0 c1 c4
               replace HQ:Hid (Lq w V7 b c (j+1) s1 L1 r1 R1 ln1 lr1 (.slice vo O1.length vc) O1):=hide ((unhide HQ).step hV7)
               replace HBO:=hide ((unhide HBO).kept hV7 (by simp))
               have c0:V7.cell? ⟨q6,0,none⟩=some (.int .i64 od.k):=fits_cell (unhide HBO) 0 _ rfl
               have c1:V7.cell? ⟨q6,1,none⟩=some (.int .i64 od.t):=fits_cell (unhide HBO) 1 _ rfl
               have c4:V7.cell? ⟨q6,4,none⟩=some (.int .i64 od.n):=fits_cell (unhide HBO) 4 _ rfl
               clear hV7
               go_wp2_with fail
               clear c0 c1 c4
               go_loopw [14] (fun xn wr=>∃n:Nat,n≤8∧xn= .int .i64 n∧Hid (Lq w wr b c (j+1) s1 L1 r1 R1 ln1 lr1 (.slice vo O1.length vc) O1)) (fun xn _=>8-(intOf xn).toNat)
               case atStart=>exact ⟨0,by omega,rfl,HQ⟩
               case round=>
                 clear HQ
                 obtain⟨n,hn,rfl,HQ⟩:=hrel
                 by_cases hn8:n<8
                 · have hd8:decide ((n:Int)<8)=true:=by simp;omega
                   cases hh:s1.ho n with
                   | false=>
                     obtain⟨m9,hm9⟩:∃m9,holdsP s1 (n:Int)=(m9,false):=⟨_,Prod.ext rfl (holdsP_no hh)⟩
                     clear hh
                     have P18:=hide (show Calls Try.prog 18 #[P0 b,.int .i64 (n:Int)] wr fun e w'=>e= .returned (.tuple #[.int .i64 m9,.bool false])∧w'=wr from by have h9:=holds18 s1 ln1 b (n:Int) wr (unhide HQ).st.du.sb;rw [hm9] at h9;exact h9)
                     clear hm9
                     go_wp2_with (first |(go_at_call 18;refine(unhide P18).mono ?_;rintro e W8 ⟨rfl,q8⟩;replace q8:=q8.symm;subst q8;refine Stp.go ?_))
                     constructor
                     go_wp2_with fail
                     go_roundw
                     case rel=>exact ⟨n+1,by omega,by go_num,HQ⟩
                     case measure=>simp [intOf];omega
                   | true=>
                     have hw:=unhide HWH n hn8 hh
                     obtain⟨m9,hm9⟩:∃m9,holdsP s1 (n:Int)=(m9,true):=⟨_,Prod.ext rfl (holdsP_yes hn8 hh)⟩
                     clear hh
                     have P18:=hide (show Calls Try.prog 18 #[P0 b,.int .i64 (n:Int)] wr fun e w'=>e= .returned (.tuple #[.int .i64 m9,.bool true])∧w'=wr from by have h9:=holds18 s1 ln1 b (n:Int) wr (unhide HQ).st.du.sb;rw [hm9] at h9;exact h9)
                     clear hm9
                     by_cases e1:(n:Int)=od.n
                     · have e1a:=eqt_a e1
                       have e1b:=eqt_b e1
                       have e1c:=eqt_c e1
                       clear e1 hw
                       go_wp2_with (first |(go_at_call 18;refine(unhide P18).mono ?_;rintro e W8 ⟨rfl,q8⟩;replace q8:=q8.symm;subst q8;refine Stp.go ?_))
                       constructor
                       go_wp2_with fail
                       go_roundw
                       case rel=>exact ⟨n+1,by omega,by go_num,HQ⟩
                       case measure=>simp [intOf];omega
                     · have e2:(n:Int)=od.t:=by
                         rcases hw with h | h
                         · exact h
                         · exact absurd h.2 e1
                       have e1a:=nef_a e1
                       have e1b:=nef_b e1
                       have e1c:=nef_c e1
                       have e2a:=eqt_a e2
                       have e2b:=eqt_b e2
                       have e2c:=eqt_c e2
                       clear e1 e2 hw
                       go_wp2_with (first |(go_at_call 18;refine(unhide P18).mono ?_;rintro e W8 ⟨rfl,q8⟩;replace q8:=q8.symm;subst q8;refine Stp.go ?_))
                       constructor
                       go_wp2_with fail
                       go_roundw
                       case rel=>exact ⟨n+1,by omega,by go_num,HQ⟩
                       case measure=>simp [intOf];omega
                 · obtain rfl:n=8:=by omega
                   have hd8:decide (((8:Nat):Int)<8)=false:=by decide
                   go_wp2_with fail
                   go_roundw
                   case rel=>exact ⟨k+1,by omega,by go_num,HQ⟩
                   case measure=>simp [intOf];omega
             · have h1a:=nef_a h1
               have h1b:=nef_b h1
               have h1c:=nef_c h1
               have h3a:=nef_a h3
               have h3b:=nef_b h3
               have h3c:=nef_c h3
               clear h6 h1 h3 hq
               go_wp2_with fail
               go_roundw
               case rel=>exact ⟨k+1,by omega,by go_num,HQ⟩
               case measure=>simp [intOf];omega
         · obtain rfl:k=O1.length:=by omega
           have hdk:decide ((O1.length:Int)<(O1.length:Int))=false:=by simp
           have HS:=hide (unhide HQ).st
           go_wp2_with fail
           go_roundw
           case rel=>exact ⟨j+1,s1,L1,r1,R1,ln1,lr1,by omega,rfl,by go_num,HS⟩
           case measure=>simp [intOf];omega
   · obtain rfl:j=X.length:=by omega
     have hd:decide ((X.length:Int)<(X.length:Int))=false:=by simp
     have HK:=hide (unhide HS).du.kept
     go_wp2_with (first |(go_at_call 9;refine(known9 _).mono ?_;rintro e W99 ⟨rfl,K99⟩;replace HK:=hide ((unhide HK).trans K99);refine Stp.go ?_))
     constructor
     go_wp2_with fail
     go_ret
     exact⟨rfl,unhide HK⟩
theorem books5 (ao:Option Addr) (c0:Nat) (X:List Sp) (w:World) (hX:RowS Sp.C 5 w ao X):Calls Try.prog 5 #[.slice ao X.length c0] w fun x w'=>x= .returned (.bool true)∧Kept [] w w':=by
 cases hl:decide ((200:Int)<(X.length:Int)) with
 | true=>exact books_a ao c0 X w hl
 | false=>exact books_b ao c0 X w hl hX
end Go.Proofs.Ytabicgbnloabnaa
