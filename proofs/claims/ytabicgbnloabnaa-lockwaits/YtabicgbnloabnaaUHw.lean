import Derived.Test.YtabicgbnloabnaaUHr
import Derived.Deep.CutBlock
namespace Go.Proofs.Ytabicgbnloabnaa
set_option maxRecDepth 100000
set_option linter.unusedSimpArgs false
open Go.RowKit
theorem cg24 (vs:Array Value) (w:World):(callFunc 24 vs).run Try.prog w= .ok (.enter 24 vs) w:=by kernel_rfl
def tdB (O:List Od) (n:Int):Bool:=O.any fun o=>decide (o.o=n)&& !decide (o.k=6)
theorem tdB_of {O:List Od} {n:Int} (h:Td O n):tdB O n=true:=by
 obtain⟨o,h1,h2,h3⟩:=h
 exact List.any_eq_true.2 ⟨o,h1,by simp [h2,h3]⟩
theorem tdB_app (O:List Od) (o:Od) (n:Int):tdB (O++ [o]) n=(tdB O n||(decide (o.o=n)&& !decide (o.k=6))):=by simp [tdB]
structure Lw (w W:World) (b c j:Nat) (s:Lo) (L:List Wi) (r:Rk) (R:List Wi) (ln lr tv:Value) (T:List Od):Prop where
 st:St ⟨w,[]⟩ W b c j s L r R ln lr
 tl:Ou w W tv T
 td:s.busy=true→Td T s.op
 tn:T.length≤j*2000
structure Lx (w W:World) (b c j:Nat) (s1:Lo) (L1:List Wi) (r1:Rk) (R1:List Wi) (ln1 lr1 tv:Value) (T:List Od) (s:Lo) (L:List Wi) (q7 q10:Nat) (x y z x1 y1 z1:Value):Prop where
 lw:Lw w W b c j s1 L1 r1 R1 ln1 lr1 tv T
 b7:Blk W q7 43 ((s.book L).C x y z)
 wz:Ws W z L
 b10:Blk W q10 43 ((s1.book L1).C x1 y1 z1)
 wz1:Ws W z1 L1
variable {w W W':World} {b c j:Nat} {s:Lo} {L R:List Wi} {r:Rk} {ln lr tv:Value} {T:List Od}
theorem Lw.step (h:Lw w W b c j s L r R ln lr tv T) (hk:Kept [] W W'):Lw w W' b c j s L r R ln lr tv T:=⟨h.st.step hk,h.tl.kept hk (by simp),h.td,h.tn⟩
theorem Lx.step {s1:Lo} {L1 R1:List Wi} {r1:Rk} {ln1 lr1:Value} {q7 q10:Nat} {x y z x1 y1 z1:Value} (h:Lx w W b c j s1 L1 r1 R1 ln1 lr1 tv T s L q7 q10 x y z x1 y1 z1) (hk:Kept [] W W'):Lx w W' b c j s1 L1 r1 R1 ln1 lr1 tv T s L q7 q10 x y z x1 y1 z1:=
 ⟨h.lw.step hk,h.b7.kept hk (by simp),h.wz.kept hk (by simp),h.b10.kept hk (by simp),h.wz1.kept hk (by simp)⟩
theorem pre_drop {d:Nat} {L E:List Wi} :(L.drop d++E).take (L.drop d).length=L.drop d:=by simp
set_option maxHeartbeats 2000000 in
theorem waits_a (ao:Option Addr) (c0:Nat) (X:List Sp) (w:World) (hl:decide ((200:Int)<(X.length:Int))=true):Calls Try.prog 6 #[.slice ao X.length c0] w fun x w'=>x= .returned (.bool true)∧Kept [] w w':=by
 go_enter Try.func6,Try.ntmps6
 go_wp2_with (first |(go_at_call 9;refine(known9 _).mono ?_;rintro e W99 ⟨rfl,K99⟩;refine Stp.go ?_))
 constructor
 go_wp2_with fail
 go_ret
 exact⟨rfl,K99⟩
theorem Rw.sl2 {W:World} {e z n:Nat} {v:Value} {xs:List Value} (h:Rw W e z v n xs):∀ao c,v= .slice ao n c→n≤c∧(ao=none→n=0∧c=0):=by
 intro ao c hv
 obtain⟨ao',c',e1,h1,h2⟩:=h.sl
 rw [hv] at e1
 cases e1
 exact⟨h1,h2⟩
set_option maxHeartbeats 16000000 in
theorem waits_b (ao:Option Addr) (c0:Nat) (X:List Sp) (w:World) (hl:decide ((200:Int)<(X.length:Int))=false) (hX:RowS Sp.C 5 w ao X):Calls Try.prog 6 #[.slice ao X.length c0] w fun x w'=>x= .returned (.bool true)∧Kept [] w w':=by
 have HX:=hide hX
 have hlen:(X.length:Int)≤200:=by have:=of_decide_eq_false hl;omega
 clear hX
 go_enter Try.func6,Try.ntmps6
 go_wp2_with (first |(go_at_call 10;refine(new10 _).mono ?_;rintro e W1 ⟨b,rfl,hb1,hB1,K1⟩;have HN1:=hide (And.intro hb1 (And.intro hB1 K1));clear hb1 hB1 K1;refine Stp.go ?_))
 constructor
 go_wp2_with (first |(go_at_call 11;refine(rnew11 _).mono ?_;rintro e W2 ⟨c,rfl,hc2,hC2,K2⟩;have HS:Hid (Lw w W2 b c 0 lo0 [] rk0 [] _ _ (.slice none 0 0) []):=⟨St.new (unhide HN1).1 (unhide HN1).2.1 (unhide HN1).2.2 hc2 hC2 K2,New.nil _ _ _ _,(fun h=>by cases h),by simp⟩;clear HN1 hc2 hC2 K2;refine Stp.go ?_))
 constructor
 go_wp2_with fail
 go_loopw [5,6] (fun xt xi wr=>∃(j:Nat) (s:Lo) (L:List Wi) (r:Rk) (R:List Wi) (ln lr tv:Value) (T:List Od),j≤X.length∧xi= .int .i64 j∧tv=xt∧Hid (Lw w wr b c j s L r R ln lr tv T)) (fun _ i _=>X.length-(intOf i).toNat)
 case atStart=>exact ⟨0,lo0,[],rk0,[],_,_,_,[],by omega,rfl,rfl,HS⟩
 case round=>
   clear HS
   obtain⟨j,s,L,r,R,ln,lr,tv,T,hj,rfl,rfl,HS⟩:=hrel
   by_cases hlt:j<X.length
   · have hd:decide ((j:Int)<(X.length:Int))=true:=by simp;omega
     obtain⟨sp,hsp⟩:∃x,X[j]?=some x:=⟨_,List.getElem?_eq_getElem hlt⟩
     have HSP:=hide hsp
     have hwl:=pdo_wl (unhide HS).st.gd.all (unhide HS).st.bz r sp
     have hle:=pdoLen s L r sp
     have hgd:=(pdo_gd (unhide HS).st.gd r sp).len
     have hll:=(unhide HS).st.gd.len
     have htd:=(unhide HS).td
     have HLO:Hid ((∀k,ln.ownBlock=some k→k<wr.heap.size)∧(∀k,lr.ownBlock=some k→k<wr.heap.size)):=⟨fun k hk=>(unhide HS).st.du.sw.lt hk,fun k hk=>(unhide HS).st.du.rr.lt hk⟩
     obtain⟨p1,hp⟩:∃p,p=pdo s L r sp:=⟨_,rfl⟩
     obtain⟨p2,hq⟩:∃p,p=rdo r R sp:=⟨_,rfl⟩
     rw [← hp] at hwl hle hgd
     have HP:=hide hp
     have HQ:=hide hq
     obtain⟨s1,L1,O1⟩:=p1
     obtain⟨r1,R1,P1⟩:=p2
     obtain⟨T1,hT1⟩:∃T1,T1=T++O1:=⟨_,rfl⟩
     have HTT:=hide hT1
     have HTD:Hid (s1.busy=true→Td T1 s1.op):=by
       intro h9
       rw [hT1]
       rcases hwl.w h9 with h8 | ⟨h8,h7⟩
       · exact h8.right
       · have h6:=htd h8
         have h7':s1.op=s.op:=h7
         rw [h7'];exact h6.left
     obtain⟨dd,hdd,E,hE,hLE⟩:=hwl.d
     have hLE':L1=L.drop dd++E:=hLE
     have HDD:Hid (dd≤L.length∧L1.length≤L.length-dd+1):=⟨hdd,by rw [hLE',List.length_append,List.length_drop];omega⟩
     have HBG:Hid (∀k,k=dd→L1.take (L.drop k).length=L.drop k):=by
       rintro k rfl
       rw [hLE'];exact pre_drop
     have HLL:Hid (L.length≤200∧L1.length≤201):=⟨by omega,by have h9:L1.length≤j+1:=hgd;omega⟩
     have HLN:Hid (O1.length≤8*L.length+16∧L.length≤200∧j≤200):=⟨hle,by omega,by omega⟩
     clear hp hq hwl hle hgd hll htd hT1 hsp hdd hE hLE hLE'
     go_wp2_with (first |(go_at_call 15;refine(book15 s ln b L _ (unhide HS).st.du.sb (unhide HS).st.du.sw (unhide HS).st.gd.ok.ex (by have:=(unhide HS).st.gd.len;omega)).mono ?_;rintro e W4 ⟨x,y,z,rfl,hB4,K4⟩;have HSZ:=hide K4.size;replace HS:=hide ((unhide HS).step K4);have HB4:=hide hB4;clear hB4 K4;refine Stp.go ?_))
     constructor
     go_wp2_with (first |(refine wpNew row43 bz43 rfl zero43 7 rfl rfl rfl (.tmp 27) rfl rfl rfl ((s.book L).C x y z) rfl (BoC_one (unhide HB4)) (by kernel_rfl) (by kernel_rfl) ?_;intro W5 q7 e5 B5 K5;replace HS:=hide ((unhide HS).step K5);have H7:=hide B5;have HZ:Hid (Ws W5 z L):=(unhide HB4).ln.row.kept K5 (by simp);have HZ0:=hide (unhide HB4).ln.own;clear e5 B5 K5 HB4 HSZ;refine Stp.go ?_))
     constructor
     go_wp2_with (first |(refine wpIdx22 rfl (.tmp 31) (.tmp 32) rfl ao c0 X j sp rfl rfl ((unhide HX).kept (unhide HS).st.du.kept) (unhide HSP) ?_;intro g o9 HR9;refine Stp.go ?_))
     constructor
     go_wp2_with (first |(refine wpLoadA row33 rfl (.tmp 33) rfl g o9 rfl sp.C rfl HR9 ?_;clear HR9;refine Stp.go ?_))
     constructor
     go_wp2_with (
       first
       | (go_at_call 12
          refine((unhide HS).st.does2 (by omega) sp).mono ?_
          rintro e W6 ⟨v,v2,ln1,lr1,rfl,N6,_,hS6,K6⟩
          have HTL:Hid (Ou w W6 tv T):=⟨(unhide HS).tl.row.kept K6 ((unhide HS).st.du.farR (unhide HS).tl.row (by decide) (by decide) (by decide)),(unhide HS).tl.own⟩
          have HTN:=hide (unhide HS).tn
          replace H7:Hid (Blk W6 q7 43 ((s.book L).C x y z)):=(unhide H7).kept K6 ((unhide HS).st.du.far (unhide H7) (by decide) (by decide) (by decide))
          replace HZ:Hid (Ws W6 z L):=(unhide HZ).kept K6 ((unhide HS).st.du.farW (unhide HZ) (unhide HZ0) (unhide HLO).1 (unhide HLO).2)
          have HS6:Hid (St ⟨w,[]⟩ W6 b c (j+1) s1 L1 r1 R1 ln1 lr1):=by
            have h9:=hS6
            rw [← unhide HP,← unhide HQ] at h9
            exact h9
          have HO:Hid (Os W6 v O1):=by have h9:=N6.row;rw [← unhide HP] at h9;exact h9
          clear N6 hS6 K6 HS HP HQ HZ0 HLO
          refine Stp.go ?_))
     constructor
     go_wp2_with (first |(refine wpAppN el28 rfl (.tmp 38) (.tmp 39) rfl tv _ _ rfl (unhide HTL) v O1.length (odC O1) rfl (unhide HO) (odC_one _) (by have:=unhide HTN;have:=unhide HLN;omega) (show _≤9223372036854775807 by have:=unhide HTN;have:=unhide HLN;omega) (show w.heap.size≤_ from(unhide HS6).du.kept.size) ?_;intro v7 W7 N7 K7;replace HS6:=hide ((unhide HS6).row (unhide HTL) K7);replace H7:Hid (Blk W7 q7 43 ((s.book L).C x y z)):=(unhide H7).kept K7 (fun hx=>Rw.ne (unhide HTL).row (unhide H7) (by decide) q7 (spare_own hx) (by simp));replace HZ:Hid (Ws W7 z L):=(unhide HZ).kept K7 (Rw.apart (unhide HZ) (unhide HTL).row (by decide));have HT1:Hid (Ou w W7 v7 T1):=(by rw [unhide HTT];exact New.app N7);clear N7 K7 HTL HO;refine Stp.go ?_))
     constructor
     go_wp2_with (first |(go_at_call 15;refine(book15 s1 ln1 b L1 _ (unhide HS6).du.sb (unhide HS6).du.sw (unhide HS6).gd.ok.ex (by have:=(unhide HS6).gd.len;omega)).mono ?_;rintro e W8 ⟨x1,y1,z1,rfl,hB8,K8⟩;replace HS6:=hide ((unhide HS6).step K8);replace H7:=hide ((unhide H7).kept K8 (by simp));replace HZ:Hid (Ws W8 z L):=(unhide HZ).kept K8 (by simp);replace HT1:Hid (Ou w W8 v7 T1):=(unhide HT1).kept K8 (by simp);have HB8:=hide hB8;clear hB8 K8;refine Stp.go ?_))
     constructor
     go_wp2_with (first |(refine wpNew row43 bz43 rfl zero43 10 rfl rfl rfl (.tmp 42) rfl rfl rfl ((s1.book L1).C x1 y1 z1) rfl (BoC_one (unhide HB8)) (by kernel_rfl) (by kernel_rfl) ?_;intro W9 q10 e9 B9 K9;have HL0:Hid (Lx w W9 b c (j+1) s1 L1 r1 R1 ln1 lr1 v7 T1 s L q7 q10 x y z x1 y1 z1):=⟨⟨(unhide HS6).step K9,(unhide HT1).kept K9 (by simp),unhide HTD,by rw [unhide HTT,List.length_append];have:=unhide HTN;have:=unhide HLN;omega⟩,(unhide H7).kept K9 (by simp),(unhide HZ).kept K9 (by simp),B9,(unhide HB8).ln.row.kept K9 (by simp)⟩;clear e9 B9 K9 HB8 HT1 HZ H7 HS6;refine Stp.go ?_))
     constructor
     have HZC:=hide (Rw.sl2 (unhide HL0).wz)
     obtain⟨tto,tc,rfl,_,_⟩:=(unhide HL0).lw.tl.row.sl
     obtain⟨zo,zc,rfl,_,_⟩:=(unhide HL0).wz.sl
     obtain⟨z1o,z1c,rfl,_,_⟩:=(unhide HL0).wz1.sl
     replace HZC:Hid (L.length≤zc∧(zo=none→L.length=0∧zc=0)):=unhide HZC zo zc rfl
     have hT1:=(unhide HL0).lw.tl.row.le
     have c15:W9.cell? ⟨q10,15,none⟩=some (.bool s1.busy):=fits_cell (unhide HL0).b10 15 _ rfl
     go_upto_if 44 with fail
     clear c15
     go_cut [11,12] from 20 to 105 (fun x11 x12 wc=>Hid (Lx w wc b c (j+1) s1 L1 r1 R1 ln1 lr1 (.slice tto T1.length tc) T1 s L q7 q10 x y (.slice zo L.length zc) x1 y1 (.slice z1o L1.length z1c)))
     case first=>
       cases hbz:s1.busy with
       | true=>
         have HBZ:=hide hbz
         clear hbz
         go_wp2_with fail
         go_loopw [11,12] (fun xs xk wr=>∃k:Nat,k≤T1.length∧xk= .int .i64 k∧xs= .bool (tdB (T1.take k) s1.op)∧Hid (Lx w wr b c (j+1) s1 L1 r1 R1 ln1 lr1 (.slice tto T1.length tc) T1 s L q7 q10 x y (.slice zo L.length zc) x1 y1 (.slice z1o L1.length z1c))) (fun _ xk _=>T1.length-(intOf xk).toNat)
         case atStart=>exact ⟨0,by omega,rfl,rfl,HL0⟩
         case round=>
           clear HL0
           obtain⟨k,hk,rfl,rfl,HL0⟩:=hrel
           by_cases hkl:k<T1.length
           · have hdk:decide ((k:Int)<(T1.length:Int))=true:=by simp;omega
             obtain⟨od,hod⟩:∃x,T1[k]?=some x:=⟨_,List.getElem?_eq_getElem hkl⟩
             obtain⟨gt,ot,ct,et,hct⟩:=Os.get (unhide HL0).lw.tl.row hod
             cases et
             have HCO:Hid (wr.cell? ⟨gt,ot+k*6+2,none⟩=some (.int .i64 od.o)):=hct 2 _ rfl
             have HCK:Hid (wr.cell? ⟨gt,ot+k*6,none⟩=some (.int .i64 od.k)):=hct 0 _ rfl
             have htk:tdB (T1.take (k+1)) s1.op=(tdB (T1.take k) s1.op||(decide (od.o=s1.op)&& !decide (od.k=6))):=by rw [List.take_add_one,hod];exact tdB_app _ _ _
             clear hod hct
             cases hin:tdB (T1.take k) s1.op with
             | true=>
               have HTK:Hid (tdB (T1.take (k+1)) s1.op=true):=by show _=_;rw [htk,hin];rfl
               clear hin htk
               go_wp2_with fail
               refine wp_region_any mixed (wpAny_tq1 19 rfl (by kernel_rfl) [some (.bool true),some (.bool true),none,none,none,none,none,none,none,none,none,none,none,none,none,none,none,none,some (.bool true),some (undef)] rfl (by kernel_rfl) (by kernel_rfl) ?_ ?_)
               · intro i o' hi hsk ho a' w2 hout hin hk2
                 replace hk2:Kept [] wr w2:=⟨hk2.os,hk2.tape,hk2.output,hk2.size,hk2.block⟩
                 match i,ho,hsk with
                 | 0,ho,hsk=>
                   obtain rfl:=Oj9 ho
                   exact wp_move (.tmp 11) rfl _ ((hout 11 (by kernel_rfl)).trans rfl) (tE rfl)
                 | 1,ho,hsk=>
                   obtain rfl:=Oj9 ho
                   have e0:a'.eval (.tmp 51)= .bool true:=is_tq (hin 0 51 (by kernel_rfl) (by kernel_rfl)) rfl
                   exact wp_move (.tmp 51) rfl _ e0 (tE rfl)
                 | 2,ho,hsk=>
                   cases hsk
                 | 3,ho,hsk=>
                   cases hsk
                 | 4,ho,hsk=>
                   cases hsk
                 | 5,ho,hsk=>
                   cases hsk
                 | 6,ho,hsk=>
                   cases hsk
                 | 7,ho,hsk=>
                   cases hsk
                 | 8,ho,hsk=>
                   cases hsk
                 | 9,ho,hsk=>
                   cases hsk
                 | 10,ho,hsk=>
                   cases hsk
                 | 11,ho,hsk=>
                   cases hsk
                 | 12,ho,hsk=>
                   cases hsk
                 | 13,ho,hsk=>
                   cases hsk
                 | 14,ho,hsk=>
                   cases hsk
                 | 15,ho,hsk=>
                   cases hsk
                 | 16,ho,hsk=>
                   cases hsk
                 | 17,ho,hsk=>
                   cases hsk
                 | 18,ho,hsk=>
                   obtain rfl:=Oj9 ho
                   have e0:a'.eval (.tmp 52)= .bool true:=is_tq (hin 1 52 (by kernel_rfl) (by kernel_rfl)) rfl
                   exact o_pickOrT (.tmp 52) (.tmp 68) rfl e0 (tE rfl)
                 | 19,ho,hsk=>
                   obtain rfl:=Oj9 ho
                   exact absurd hi (by decide)
               intro w9 hk9
               replace hk9:Kept [] wr w9:=⟨hk9.os,hk9.tape,hk9.output,hk9.size,hk9.block⟩
               simp only [valsQ,List.map_cons,List.map_nil,Option.getD_some,Option.getD_none,List.take_succ_cons,List.take_zero,putAll,Act.put,List.setIfInBounds_toArray,List.set_cons_succ,List.set_cons_zero]
               refine wpAny_all (rs:= [19]) (by kernel_rfl) (by simp) ?_
               intro i hi
               obtain rfl:i=19:=by simpa using hi
               refine wpOp_of rfl rfl (wp_assignV (.tmp 69) rfl (.bool true) rfl ?_)
               refine wpAny_done (by kernel_rfl) ?_ _
               simp only [Act.put,List.setIfInBounds_toArray,List.set_cons_succ,List.set_cons_zero]
               go_wp2_with fail
               go_roundw
               case rel=>exact ⟨k+1,by omega,by go_num,by rw [unhide HTK],hide ((unhide HL0).step hk9)⟩
               case measure=>simp [intOf];omega
             | false=>
               by_cases h1:od.o=s1.op
               · have D0:Hid (decide (od.o=s1.op)=true):=decide_eq_true h1
                 by_cases h2:od.k=6
                 · have D1:Hid (decide (od.k=6)=true):=decide_eq_true h2
                   have HTK:Hid (tdB (T1.take (k+1)) s1.op=false):=by show _=_;rw [htk,hin];simp [h2]
                   clear hin htk h1 h2
                   go_wp2_with fail
                   refine wp_region_any mixed (wpAny_tq1 19 rfl (by kernel_rfl) [some (.bool false),some (.bool false),some (.slice (some ⟨gt,ot,none⟩) T1.length tc),some (.int .i64 k),some (.pointer (some ⟨gt,ot+k*6,none⟩)),some (.pointer (some ⟨gt,ot+k*6+2,none⟩)),some (.int .i64 od.o),some (.pointer (some ⟨q10,16,none⟩)),some (.int .i64 s1.op),some (.bool true),some (.bool true),some (.slice (some ⟨gt,ot,none⟩) T1.length tc),some (.int .i64 k),some (.pointer (some ⟨gt,ot+k*6,none⟩)),some (.pointer (some ⟨gt,ot+k*6,none⟩)),some (.int .i64 od.k),some (.bool false),some (.bool false),some (.bool false),some (undef)] rfl (by kernel_rfl) (by kernel_rfl) ?_ ?_)
                   · intro i o' hi hsk ho a' w2 hout hin hk2
                     replace hk2:Kept [] wr w2:=⟨hk2.os,hk2.tape,hk2.output,hk2.size,hk2.block⟩
                     match i,ho,hsk with
                     | 0,ho,hsk=>
                       obtain rfl:=Oj9 ho
                       exact wp_move (.tmp 11) rfl _ ((hout 11 (by kernel_rfl)).trans rfl) (tE rfl)
                     | 1,ho,hsk=>
                       obtain rfl:=Oj9 ho
                       have e0:a'.eval (.tmp 51)= .bool false:=is_tq (hin 0 51 (by kernel_rfl) (by kernel_rfl)) rfl
                       exact wp_move (.tmp 51) rfl _ e0 (tE rfl)
                     | 2,ho,hsk=>
                       obtain rfl:=Oj9 ho
                       exact wp_move (.tmp 5) rfl _ ((hout 5 (by kernel_rfl)).trans rfl) (tE rfl)
                     | 3,ho,hsk=>
                       obtain rfl:=Oj9 ho
                       exact wp_move (.tmp 12) rfl _ ((hout 12 (by kernel_rfl)).trans rfl) (tE rfl)
                     | 4,ho,hsk=>
                       obtain rfl:=Oj9 ho
                       have e0:a'.eval (.tmp 53)= .slice (some ⟨gt,ot,none⟩) T1.length tc:=is_tq (hin 2 53 (by kernel_rfl) (by kernel_rfl)) rfl
                       have e1:a'.eval (.tmp 54)= .int .i64 k:=is_tq (hin 3 54 (by kernel_rfl) (by kernel_rfl)) rfl
                       exact o_idx28n (.tmp 53) (.tmp 54) rfl gt ot T1.length tc k hkl e0 e1 (tE rfl)
                     | 5,ho,hsk=>
                       obtain rfl:=Oj9 ho
                       have e0:a'.eval (.tmp 55)= .pointer (some ⟨gt,ot+k*6,none⟩):=is_tq (hin 4 55 (by kernel_rfl) (by kernel_rfl)) rfl
                       exact o_fld65_2 (.tmp 55) rfl gt (ot+k*6) (ot+k*6+2) rfl e0 (tE rfl)
                     | 6,ho,hsk=>
                       obtain rfl:=Oj9 ho
                       have e0:a'.eval (.tmp 56)= .pointer (some ⟨gt,ot+k*6+2,none⟩):=is_tq (hin 5 56 (by kernel_rfl) (by kernel_rfl)) rfl
                       exact o_load2 (.tmp 56) rfl _ _ e0 (hk2.cell (unhide HCO) (by simp)) (tE rfl)
                     | 7,ho,hsk=>
                       obtain rfl:=Oj9 ho
                       exact o_fld43_8 (.tmp 10) rfl q10 (0) (16) rfl ((hout 10 (by kernel_rfl)).trans rfl) (tE rfl)
                     | 8,ho,hsk=>
                       obtain rfl:=Oj9 ho
                       have e0:a'.eval (.tmp 58)= .pointer (some ⟨q10,16,none⟩):=is_tq (hin 7 58 (by kernel_rfl) (by kernel_rfl)) rfl
                       exact o_load2 (.tmp 58) rfl _ _ e0 (fits_cell ((unhide HL0).step hk2).b10 16 _ rfl) (tE rfl)
                     | 9,ho,hsk=>
                       obtain rfl:=Oj9 ho
                       have e0:a'.eval (.tmp 57)= .int .i64 od.o:=is_tq (hin 6 57 (by kernel_rfl) (by kernel_rfl)) rfl
                       have e1:a'.eval (.tmp 59)= .int .i64 s1.op:=is_tq (hin 8 59 (by kernel_rfl) (by kernel_rfl)) rfl
                       exact c_eql2 (.tmp 57) (.tmp 59) rfl _ _ (true) (unhide D0) e0 e1 (tE rfl)
                     | 10,ho,hsk=>
                       obtain rfl:=Oj9 ho
                       have e0:a'.eval (.tmp 60)= .bool true:=is_tq (hin 9 60 (by kernel_rfl) (by kernel_rfl)) rfl
                       exact wp_move (.tmp 60) rfl _ e0 (tE rfl)
                     | 11,ho,hsk=>
                       obtain rfl:=Oj9 ho
                       exact wp_move (.tmp 5) rfl _ ((hout 5 (by kernel_rfl)).trans rfl) (tE rfl)
                     | 12,ho,hsk=>
                       obtain rfl:=Oj9 ho
                       exact wp_move (.tmp 12) rfl _ ((hout 12 (by kernel_rfl)).trans rfl) (tE rfl)
                     | 13,ho,hsk=>
                       obtain rfl:=Oj9 ho
                       have e0:a'.eval (.tmp 62)= .slice (some ⟨gt,ot,none⟩) T1.length tc:=is_tq (hin 11 62 (by kernel_rfl) (by kernel_rfl)) rfl
                       have e1:a'.eval (.tmp 63)= .int .i64 k:=is_tq (hin 12 63 (by kernel_rfl) (by kernel_rfl)) rfl
                       exact o_idx28n (.tmp 62) (.tmp 63) rfl gt ot T1.length tc k hkl e0 e1 (tE rfl)
                     | 14,ho,hsk=>
                       obtain rfl:=Oj9 ho
                       have e0:a'.eval (.tmp 64)= .pointer (some ⟨gt,ot+k*6,none⟩):=is_tq (hin 13 64 (by kernel_rfl) (by kernel_rfl)) rfl
                       exact o_fld65_0 (.tmp 64) rfl gt (ot+k*6) (ot+k*6) rfl e0 (tE rfl)
                     | 15,ho,hsk=>
                       obtain rfl:=Oj9 ho
                       have e0:a'.eval (.tmp 65)= .pointer (some ⟨gt,ot+k*6,none⟩):=is_tq (hin 14 65 (by kernel_rfl) (by kernel_rfl)) rfl
                       exact o_load63 (.tmp 65) rfl _ _ e0 (hk2.cell (unhide HCK) (by simp)) (tE rfl)
                     | 16,ho,hsk=>
                       obtain rfl:=Oj9 ho
                       have e0:a'.eval (.tmp 66)= .int .i64 od.k:=is_tq (hin 15 66 (by kernel_rfl) (by kernel_rfl)) rfl
                       exact c_neq63 (.tmp 66) (.const (.int .i64 (6))) rfl _ _ (true) (unhide D1) e0 rfl (tE rfl)
                     | 17,ho,hsk=>
                       obtain rfl:=Oj9 ho
                       have e0:a'.eval (.tmp 61)= .bool true:=is_tq (hin 10 61 (by kernel_rfl) (by kernel_rfl)) rfl
                       have e1:a'.eval (.tmp 67)= .bool false:=is_tq (hin 16 67 (by kernel_rfl) (by kernel_rfl)) rfl
                       exact o_pick (.tmp 61) (.tmp 67) rfl _ e0 e1 (tE rfl)
                     | 18,ho,hsk=>
                       obtain rfl:=Oj9 ho
                       have e0:a'.eval (.tmp 52)= .bool false:=is_tq (hin 1 52 (by kernel_rfl) (by kernel_rfl)) rfl
                       have e1:a'.eval (.tmp 68)= .bool false:=is_tq (hin 17 68 (by kernel_rfl) (by kernel_rfl)) rfl
                       exact o_pickOr0 (.tmp 52) (.tmp 68) rfl _ e0 e1 (tE rfl)
                     | 19,ho,hsk=>
                       obtain rfl:=Oj9 ho
                       exact absurd hi (by decide)
                   intro w9 hk9
                   replace hk9:Kept [] wr w9:=⟨hk9.os,hk9.tape,hk9.output,hk9.size,hk9.block⟩
                   simp only [valsQ,List.map_cons,List.map_nil,Option.getD_some,Option.getD_none,List.take_succ_cons,List.take_zero,putAll,Act.put,List.setIfInBounds_toArray,List.set_cons_succ,List.set_cons_zero]
                   refine wpAny_all (rs:= [19]) (by kernel_rfl) (by simp) ?_
                   intro i hi
                   obtain rfl:i=19:=by simpa using hi
                   refine wpOp_of rfl rfl (wp_assignV (.tmp 69) rfl (.bool false) rfl ?_)
                   refine wpAny_done (by kernel_rfl) ?_ _
                   simp only [Act.put,List.setIfInBounds_toArray,List.set_cons_succ,List.set_cons_zero]
                   go_wp2_with fail
                   go_roundw
                   case rel=>exact ⟨k+1,by omega,by go_num,by rw [unhide HTK],hide ((unhide HL0).step hk9)⟩
                   case measure=>simp [intOf];omega
                 · have D1:Hid (decide (od.k=6)=false):=decide_eq_false h2
                   have HTK:Hid (tdB (T1.take (k+1)) s1.op=true):=by show _=_;rw [htk,hin];simp [h1,h2]
                   clear hin htk h1 h2
                   go_wp2_with fail
                   refine wp_region_any mixed (wpAny_tq1 19 rfl (by kernel_rfl) [some (.bool false),some (.bool false),some (.slice (some ⟨gt,ot,none⟩) T1.length tc),some (.int .i64 k),some (.pointer (some ⟨gt,ot+k*6,none⟩)),some (.pointer (some ⟨gt,ot+k*6+2,none⟩)),some (.int .i64 od.o),some (.pointer (some ⟨q10,16,none⟩)),some (.int .i64 s1.op),some (.bool true),some (.bool true),some (.slice (some ⟨gt,ot,none⟩) T1.length tc),some (.int .i64 k),some (.pointer (some ⟨gt,ot+k*6,none⟩)),some (.pointer (some ⟨gt,ot+k*6,none⟩)),some (.int .i64 od.k),some (.bool true),some (.bool true),some (.bool true),some (undef)] rfl (by kernel_rfl) (by kernel_rfl) ?_ ?_)
                   · intro i o' hi hsk ho a' w2 hout hin hk2
                     replace hk2:Kept [] wr w2:=⟨hk2.os,hk2.tape,hk2.output,hk2.size,hk2.block⟩
                     match i,ho,hsk with
                     | 0,ho,hsk=>
                       obtain rfl:=Oj9 ho
                       exact wp_move (.tmp 11) rfl _ ((hout 11 (by kernel_rfl)).trans rfl) (tE rfl)
                     | 1,ho,hsk=>
                       obtain rfl:=Oj9 ho
                       have e0:a'.eval (.tmp 51)= .bool false:=is_tq (hin 0 51 (by kernel_rfl) (by kernel_rfl)) rfl
                       exact wp_move (.tmp 51) rfl _ e0 (tE rfl)
                     | 2,ho,hsk=>
                       obtain rfl:=Oj9 ho
                       exact wp_move (.tmp 5) rfl _ ((hout 5 (by kernel_rfl)).trans rfl) (tE rfl)
                     | 3,ho,hsk=>
                       obtain rfl:=Oj9 ho
                       exact wp_move (.tmp 12) rfl _ ((hout 12 (by kernel_rfl)).trans rfl) (tE rfl)
                     | 4,ho,hsk=>
                       obtain rfl:=Oj9 ho
                       have e0:a'.eval (.tmp 53)= .slice (some ⟨gt,ot,none⟩) T1.length tc:=is_tq (hin 2 53 (by kernel_rfl) (by kernel_rfl)) rfl
                       have e1:a'.eval (.tmp 54)= .int .i64 k:=is_tq (hin 3 54 (by kernel_rfl) (by kernel_rfl)) rfl
                       exact o_idx28n (.tmp 53) (.tmp 54) rfl gt ot T1.length tc k hkl e0 e1 (tE rfl)
                     | 5,ho,hsk=>
                       obtain rfl:=Oj9 ho
                       have e0:a'.eval (.tmp 55)= .pointer (some ⟨gt,ot+k*6,none⟩):=is_tq (hin 4 55 (by kernel_rfl) (by kernel_rfl)) rfl
                       exact o_fld65_2 (.tmp 55) rfl gt (ot+k*6) (ot+k*6+2) rfl e0 (tE rfl)
                     | 6,ho,hsk=>
                       obtain rfl:=Oj9 ho
                       have e0:a'.eval (.tmp 56)= .pointer (some ⟨gt,ot+k*6+2,none⟩):=is_tq (hin 5 56 (by kernel_rfl) (by kernel_rfl)) rfl
                       exact o_load2 (.tmp 56) rfl _ _ e0 (hk2.cell (unhide HCO) (by simp)) (tE rfl)
                     | 7,ho,hsk=>
                       obtain rfl:=Oj9 ho
                       exact o_fld43_8 (.tmp 10) rfl q10 (0) (16) rfl ((hout 10 (by kernel_rfl)).trans rfl) (tE rfl)
                     | 8,ho,hsk=>
                       obtain rfl:=Oj9 ho
                       have e0:a'.eval (.tmp 58)= .pointer (some ⟨q10,16,none⟩):=is_tq (hin 7 58 (by kernel_rfl) (by kernel_rfl)) rfl
                       exact o_load2 (.tmp 58) rfl _ _ e0 (fits_cell ((unhide HL0).step hk2).b10 16 _ rfl) (tE rfl)
                     | 9,ho,hsk=>
                       obtain rfl:=Oj9 ho
                       have e0:a'.eval (.tmp 57)= .int .i64 od.o:=is_tq (hin 6 57 (by kernel_rfl) (by kernel_rfl)) rfl
                       have e1:a'.eval (.tmp 59)= .int .i64 s1.op:=is_tq (hin 8 59 (by kernel_rfl) (by kernel_rfl)) rfl
                       exact c_eql2 (.tmp 57) (.tmp 59) rfl _ _ (true) (unhide D0) e0 e1 (tE rfl)
                     | 10,ho,hsk=>
                       obtain rfl:=Oj9 ho
                       have e0:a'.eval (.tmp 60)= .bool true:=is_tq (hin 9 60 (by kernel_rfl) (by kernel_rfl)) rfl
                       exact wp_move (.tmp 60) rfl _ e0 (tE rfl)
                     | 11,ho,hsk=>
                       obtain rfl:=Oj9 ho
                       exact wp_move (.tmp 5) rfl _ ((hout 5 (by kernel_rfl)).trans rfl) (tE rfl)
                     | 12,ho,hsk=>
                       obtain rfl:=Oj9 ho
                       exact wp_move (.tmp 12) rfl _ ((hout 12 (by kernel_rfl)).trans rfl) (tE rfl)
                     | 13,ho,hsk=>
                       obtain rfl:=Oj9 ho
                       have e0:a'.eval (.tmp 62)= .slice (some ⟨gt,ot,none⟩) T1.length tc:=is_tq (hin 11 62 (by kernel_rfl) (by kernel_rfl)) rfl
                       have e1:a'.eval (.tmp 63)= .int .i64 k:=is_tq (hin 12 63 (by kernel_rfl) (by kernel_rfl)) rfl
                       exact o_idx28n (.tmp 62) (.tmp 63) rfl gt ot T1.length tc k hkl e0 e1 (tE rfl)
                     | 14,ho,hsk=>
                       obtain rfl:=Oj9 ho
                       have e0:a'.eval (.tmp 64)= .pointer (some ⟨gt,ot+k*6,none⟩):=is_tq (hin 13 64 (by kernel_rfl) (by kernel_rfl)) rfl
                       exact o_fld65_0 (.tmp 64) rfl gt (ot+k*6) (ot+k*6) rfl e0 (tE rfl)
                     | 15,ho,hsk=>
                       obtain rfl:=Oj9 ho
                       have e0:a'.eval (.tmp 65)= .pointer (some ⟨gt,ot+k*6,none⟩):=is_tq (hin 14 65 (by kernel_rfl) (by kernel_rfl)) rfl
                       exact o_load63 (.tmp 65) rfl _ _ e0 (hk2.cell (unhide HCK) (by simp)) (tE rfl)
                     | 16,ho,hsk=>
                       obtain rfl:=Oj9 ho
                       have e0:a'.eval (.tmp 66)= .int .i64 od.k:=is_tq (hin 15 66 (by kernel_rfl) (by kernel_rfl)) rfl
                       exact c_neq63 (.tmp 66) (.const (.int .i64 (6))) rfl _ _ (false) (unhide D1) e0 rfl (tE rfl)
                     | 17,ho,hsk=>
                       obtain rfl:=Oj9 ho
                       have e0:a'.eval (.tmp 61)= .bool true:=is_tq (hin 10 61 (by kernel_rfl) (by kernel_rfl)) rfl
                       have e1:a'.eval (.tmp 67)= .bool true:=is_tq (hin 16 67 (by kernel_rfl) (by kernel_rfl)) rfl
                       exact o_pick (.tmp 61) (.tmp 67) rfl _ e0 e1 (tE rfl)
                     | 18,ho,hsk=>
                       obtain rfl:=Oj9 ho
                       have e0:a'.eval (.tmp 52)= .bool false:=is_tq (hin 1 52 (by kernel_rfl) (by kernel_rfl)) rfl
                       have e1:a'.eval (.tmp 68)= .bool true:=is_tq (hin 17 68 (by kernel_rfl) (by kernel_rfl)) rfl
                       exact o_pickOr0 (.tmp 52) (.tmp 68) rfl _ e0 e1 (tE rfl)
                     | 19,ho,hsk=>
                       obtain rfl:=Oj9 ho
                       exact absurd hi (by decide)
                   intro w9 hk9
                   replace hk9:Kept [] wr w9:=⟨hk9.os,hk9.tape,hk9.output,hk9.size,hk9.block⟩
                   simp only [valsQ,List.map_cons,List.map_nil,Option.getD_some,Option.getD_none,List.take_succ_cons,List.take_zero,putAll,Act.put,List.setIfInBounds_toArray,List.set_cons_succ,List.set_cons_zero]
                   refine wpAny_all (rs:= [19]) (by kernel_rfl) (by simp) ?_
                   intro i hi
                   obtain rfl:i=19:=by simpa using hi
                   refine wpOp_of rfl rfl (wp_assignV (.tmp 69) rfl (.bool true) rfl ?_)
                   refine wpAny_done (by kernel_rfl) ?_ _
                   simp only [Act.put,List.setIfInBounds_toArray,List.set_cons_succ,List.set_cons_zero]
                   go_wp2_with fail
                   go_roundw
                   case rel=>exact ⟨k+1,by omega,by go_num,by rw [unhide HTK],hide ((unhide HL0).step hk9)⟩
                   case measure=>simp [intOf];omega
               · have D0:Hid (decide (od.o=s1.op)=false):=decide_eq_false h1
                 have HTK:Hid (tdB (T1.take (k+1)) s1.op=false):=by show _=_;rw [htk,hin];simp [h1]
                 clear hin htk h1
                 go_wp2_with fail
                 refine wp_region_any mixed (wpAny_tq1 19 rfl (by kernel_rfl) [some (.bool false),some (.bool false),some (.slice (some ⟨gt,ot,none⟩) T1.length tc),some (.int .i64 k),some (.pointer (some ⟨gt,ot+k*6,none⟩)),some (.pointer (some ⟨gt,ot+k*6+2,none⟩)),some (.int .i64 od.o),some (.pointer (some ⟨q10,16,none⟩)),some (.int .i64 s1.op),some (.bool false),some (.bool false),none,none,none,none,none,none,some (.bool false),some (.bool false),some (undef)] rfl (by kernel_rfl) (by kernel_rfl) ?_ ?_)
                 · intro i o' hi hsk ho a' w2 hout hin hk2
                   replace hk2:Kept [] wr w2:=⟨hk2.os,hk2.tape,hk2.output,hk2.size,hk2.block⟩
                   match i,ho,hsk with
                   | 0,ho,hsk=>
                     obtain rfl:=Oj9 ho
                     exact wp_move (.tmp 11) rfl _ ((hout 11 (by kernel_rfl)).trans rfl) (tE rfl)
                   | 1,ho,hsk=>
                     obtain rfl:=Oj9 ho
                     have e0:a'.eval (.tmp 51)= .bool false:=is_tq (hin 0 51 (by kernel_rfl) (by kernel_rfl)) rfl
                     exact wp_move (.tmp 51) rfl _ e0 (tE rfl)
                   | 2,ho,hsk=>
                     obtain rfl:=Oj9 ho
                     exact wp_move (.tmp 5) rfl _ ((hout 5 (by kernel_rfl)).trans rfl) (tE rfl)
                   | 3,ho,hsk=>
                     obtain rfl:=Oj9 ho
                     exact wp_move (.tmp 12) rfl _ ((hout 12 (by kernel_rfl)).trans rfl) (tE rfl)
                   | 4,ho,hsk=>
                     obtain rfl:=Oj9 ho
                     have e0:a'.eval (.tmp 53)= .slice (some ⟨gt,ot,none⟩) T1.length tc:=is_tq (hin 2 53 (by kernel_rfl) (by kernel_rfl)) rfl
                     have e1:a'.eval (.tmp 54)= .int .i64 k:=is_tq (hin 3 54 (by kernel_rfl) (by kernel_rfl)) rfl
                     exact o_idx28n (.tmp 53) (.tmp 54) rfl gt ot T1.length tc k hkl e0 e1 (tE rfl)
                   | 5,ho,hsk=>
                     obtain rfl:=Oj9 ho
                     have e0:a'.eval (.tmp 55)= .pointer (some ⟨gt,ot+k*6,none⟩):=is_tq (hin 4 55 (by kernel_rfl) (by kernel_rfl)) rfl
                     exact o_fld65_2 (.tmp 55) rfl gt (ot+k*6) (ot+k*6+2) rfl e0 (tE rfl)
                   | 6,ho,hsk=>
                     obtain rfl:=Oj9 ho
                     have e0:a'.eval (.tmp 56)= .pointer (some ⟨gt,ot+k*6+2,none⟩):=is_tq (hin 5 56 (by kernel_rfl) (by kernel_rfl)) rfl
                     exact o_load2 (.tmp 56) rfl _ _ e0 (hk2.cell (unhide HCO) (by simp)) (tE rfl)
                   | 7,ho,hsk=>
                     obtain rfl:=Oj9 ho
                     exact o_fld43_8 (.tmp 10) rfl q10 (0) (16) rfl ((hout 10 (by kernel_rfl)).trans rfl) (tE rfl)
                   | 8,ho,hsk=>
                     obtain rfl:=Oj9 ho
                     have e0:a'.eval (.tmp 58)= .pointer (some ⟨q10,16,none⟩):=is_tq (hin 7 58 (by kernel_rfl) (by kernel_rfl)) rfl
                     exact o_load2 (.tmp 58) rfl _ _ e0 (fits_cell ((unhide HL0).step hk2).b10 16 _ rfl) (tE rfl)
                   | 9,ho,hsk=>
                     obtain rfl:=Oj9 ho
                     have e0:a'.eval (.tmp 57)= .int .i64 od.o:=is_tq (hin 6 57 (by kernel_rfl) (by kernel_rfl)) rfl
                     have e1:a'.eval (.tmp 59)= .int .i64 s1.op:=is_tq (hin 8 59 (by kernel_rfl) (by kernel_rfl)) rfl
                     exact c_eql2 (.tmp 57) (.tmp 59) rfl _ _ (false) (unhide D0) e0 e1 (tE rfl)
                   | 10,ho,hsk=>
                     obtain rfl:=Oj9 ho
                     have e0:a'.eval (.tmp 60)= .bool false:=is_tq (hin 9 60 (by kernel_rfl) (by kernel_rfl)) rfl
                     exact wp_move (.tmp 60) rfl _ e0 (tE rfl)
                   | 11,ho,hsk=>
                     cases hsk
                   | 12,ho,hsk=>
                     cases hsk
                   | 13,ho,hsk=>
                     cases hsk
                   | 14,ho,hsk=>
                     cases hsk
                   | 15,ho,hsk=>
                     cases hsk
                   | 16,ho,hsk=>
                     cases hsk
                   | 17,ho,hsk=>
                     obtain rfl:=Oj9 ho
                     have e0:a'.eval (.tmp 61)= .bool false:=is_tq (hin 10 61 (by kernel_rfl) (by kernel_rfl)) rfl
                     exact o_pickN (.tmp 61) (.tmp 67) rfl e0 (tE rfl)
                   | 18,ho,hsk=>
                     obtain rfl:=Oj9 ho
                     have e0:a'.eval (.tmp 52)= .bool false:=is_tq (hin 1 52 (by kernel_rfl) (by kernel_rfl)) rfl
                     have e1:a'.eval (.tmp 68)= .bool false:=is_tq (hin 17 68 (by kernel_rfl) (by kernel_rfl)) rfl
                     exact o_pickOr0 (.tmp 52) (.tmp 68) rfl _ e0 e1 (tE rfl)
                   | 19,ho,hsk=>
                     obtain rfl:=Oj9 ho
                     exact absurd hi (by decide)
                 intro w9 hk9
                 replace hk9:Kept [] wr w9:=⟨hk9.os,hk9.tape,hk9.output,hk9.size,hk9.block⟩
                 simp only [valsQ,List.map_cons,List.map_nil,Option.getD_some,Option.getD_none,List.take_succ_cons,List.take_zero,putAll,Act.put,List.setIfInBounds_toArray,List.set_cons_succ,List.set_cons_zero]
                 refine wpAny_all (rs:= [19]) (by kernel_rfl) (by simp) ?_
                 intro i hi
                 obtain rfl:i=19:=by simpa using hi
                 refine wpOp_of rfl rfl (wp_assignV (.tmp 69) rfl (.bool false) rfl ?_)
                 refine wpAny_done (by kernel_rfl) ?_ _
                 simp only [Act.put,List.setIfInBounds_toArray,List.set_cons_succ,List.set_cons_zero]
                 go_wp2_with fail
                 go_roundw
                 case rel=>exact ⟨k+1,by omega,by go_num,by rw [unhide HTK],hide ((unhide HL0).step hk9)⟩
                 case measure=>simp [intOf];omega
           · obtain rfl:k=T1.length:=by omega
             have hdk:decide ((T1.length:Int)<(T1.length:Int))=false:=by simp
             rw [List.take_length,tdB_of ((unhide HL0).lw.td (unhide HBZ))]
             go_wp2_with fail
             go_meet
             case rel=>exact HL0
       | false=>
         clear hbz
         go_wp2_with fail
         go_meet
         case rel=>exact HL0
     case rest=>
       clear HL0
       have HL0:=hcut
       clear hcut
       go_wp2_with fail
       go_loopw [13] (fun xk wr=>∃k:Nat,k≤dd∧xk= .int .i64 k∧Hid (Lx w wr b c (j+1) s1 L1 r1 R1 ln1 lr1 (.slice tto T1.length tc) T1 s L q7 q10 x y (.slice zo L.length zc) x1 y1 (.slice z1o L1.length z1c))) (fun xk _=>dd-(intOf xk).toNat)
       case atStart=>exact ⟨0,by omega,rfl,HL0⟩
       case round=>
         clear HL0
         obtain⟨k,hk,rfl,HL0⟩:=hrel
         have hkL:k≤L.length:=by have:=(unhide HDD).1;omega
         have hL2:=(unhide HLL)
         by_cases hbg:L1.take (L.drop k).length=L.drop k
         · have P24:Hid (∀W,Kept [] wr W→Calls Try.prog 24 #[.slice z1o L1.length z1c,restV 2 zo L.length zc k] W fun e w'=>e= .returned (.bool true)∧Kept [] W w'):=by
             intro W hW
             have h9:=begins24 L1 (L.drop k) _ _ W ((unhide HL0).step hW).wz1 (Ws.restk ((unhide HL0).step hW).wz k hkL) (by rw [List.length_drop];omega)
             rw [decide_eq_true hbg] at h9
             exact h9
           clear hbg
           have D3:Hid (decide ((k:Int)>(L.length:Int))=false):=decide_eq_false (by omega)
           have D4:Hid (decide ((L1.length:Int)>(L.length:Int)-(k:Int)+1)=false):=decide_eq_false (by have:=(unhide HDD).2;omega)
           go_wp2_with fail
           refine wp_region_any mixed (wpAny_tq 15 rfl (by kernel_rfl) [some (.int .i64 k),some (.pointer (some ⟨q7,12,none⟩)),some (.slice zo L.length zc),some (.int .i64 L.length),some (.bool true),some (.bool true),some (.pointer (some ⟨q10,12,none⟩)),some (.slice z1o L1.length z1c),some (.pointer (some ⟨q7,12,none⟩)),some (.slice zo L.length zc),some (.int .i64 k),some (restV 2 zo L.length zc k),some (.bool true),some (.bool false),some (.bool false)] rfl (by kernel_rfl) (by kernel_rfl) ?_ ?_)
           · intro i o' hi hsk ho a' w2 hout hin hk2
             replace hk2:Kept [] wr w2:=⟨hk2.os,hk2.tape,hk2.output,hk2.size,hk2.block⟩
             match i,ho,hsk with
             | 0,ho,hsk=>
               obtain rfl:=Oj9 ho
               exact wp_move (.tmp 13) rfl _ ((hout 13 (by kernel_rfl)).trans rfl) (tE rfl)
             | 1,ho,hsk=>
               obtain rfl:=Oj9 ho
               exact o_fld43_5 (.tmp 7) rfl q7 (0) (12) rfl ((hout 7 (by kernel_rfl)).trans rfl) (tE rfl)
             | 2,ho,hsk=>
               obtain rfl:=Oj9 ho
               have e0:a'.eval (.tmp 73)= .pointer (some ⟨q7,12,none⟩):=is_tq (hin 1 73 (by kernel_rfl) (by kernel_rfl)) rfl
               exact o_load38 (.tmp 73) rfl _ _ e0 (fits_cell ((unhide HL0).step hk2).b7 12 _ rfl) (tE rfl)
             | 3,ho,hsk=>
               obtain rfl:=Oj9 ho
               have e0:a'.eval (.tmp 74)= .slice zo L.length zc:=is_tq (hin 2 74 (by kernel_rfl) (by kernel_rfl)) rfl
               exact o_len38 (.tmp 74) rfl _ L.length _ e0 ((unhide HL0).step hk2).wz (tE rfl)
             | 4,ho,hsk=>
               obtain rfl:=Oj9 ho
               have e0:a'.eval (.tmp 72)= .int .i64 k:=is_tq (hin 0 72 (by kernel_rfl) (by kernel_rfl)) rfl
               have e1:a'.eval (.tmp 75)= .int .i64 L.length:=is_tq (hin 3 75 (by kernel_rfl) (by kernel_rfl)) rfl
               exact c_leq3 (.tmp 72) (.tmp 75) rfl _ _ (true) (decide_eq_true (by omega)) e0 e1 (tE rfl)
             | 5,ho,hsk=>
               obtain rfl:=Oj9 ho
               have e0:a'.eval (.tmp 76)= .bool true:=is_tq (hin 4 76 (by kernel_rfl) (by kernel_rfl)) rfl
               exact wp_move (.tmp 76) rfl _ e0 (tE rfl)
             | 6,ho,hsk=>
               obtain rfl:=Oj9 ho
               exact o_fld43_5 (.tmp 10) rfl q10 (0) (12) rfl ((hout 10 (by kernel_rfl)).trans rfl) (tE rfl)
             | 7,ho,hsk=>
               obtain rfl:=Oj9 ho
               have e0:a'.eval (.tmp 78)= .pointer (some ⟨q10,12,none⟩):=is_tq (hin 6 78 (by kernel_rfl) (by kernel_rfl)) rfl
               exact o_load38 (.tmp 78) rfl _ _ e0 (fits_cell ((unhide HL0).step hk2).b10 12 _ rfl) (tE rfl)
             | 8,ho,hsk=>
               obtain rfl:=Oj9 ho
               exact o_fld43_5 (.tmp 7) rfl q7 (0) (12) rfl ((hout 7 (by kernel_rfl)).trans rfl) (tE rfl)
             | 9,ho,hsk=>
               obtain rfl:=Oj9 ho
               have e0:a'.eval (.tmp 80)= .pointer (some ⟨q7,12,none⟩):=is_tq (hin 8 80 (by kernel_rfl) (by kernel_rfl)) rfl
               exact o_load38 (.tmp 80) rfl _ _ e0 (fits_cell ((unhide HL0).step hk2).b7 12 _ rfl) (tE rfl)
             | 10,ho,hsk=>
               obtain rfl:=Oj9 ho
               exact wp_move (.tmp 13) rfl _ ((hout 13 (by kernel_rfl)).trans rfl) (tE rfl)
             | 11,ho,hsk=>
               obtain rfl:=Oj9 ho
               have e0:a'.eval (.tmp 81)= .slice zo L.length zc:=is_tq (hin 9 81 (by kernel_rfl) (by kernel_rfl)) rfl
               have e1:a'.eval (.tmp 82)= .int .i64 k:=is_tq (hin 10 82 (by kernel_rfl) (by kernel_rfl)) rfl
               exact o_restk (.tmp 81) (.tmp 82) rfl zo L.length zc k (unhide HZC).1 (unhide HZC).2 hkL e0 e1 (tE rfl)
             | 12,ho,hsk=>
               obtain rfl:=Oj9 ho
               have e0:a'.eval (.tmp 79)= .slice z1o L1.length z1c:=is_tq (hin 7 79 (by kernel_rfl) (by kernel_rfl)) rfl
               have e1:a'.eval (.tmp 83)=restV 2 zo L.length zc k:=is_tq (hin 11 83 (by kernel_rfl) (by kernel_rfl)) rfl
               refine wp_callF 24 _ _ rfl #[.slice z1o L1.length z1c,restV 2 zo L.length zc k] (by simp [e0,e1]) (cg24 _ _) ((unhide P24 _ hk2).mono ?_)
               rintro e w3 ⟨rfl,hk3⟩
               exact⟨_,rfl,_,rfl,tq_is _ _ _ _ rfl,hk3,fun _ _ _ _ _=>trivial⟩
             | 13,ho,hsk=>
               obtain rfl:=Oj9 ho
               have e0:a'.eval (.tmp 84)= .bool true:=is_tq (hin 12 84 (by kernel_rfl) (by kernel_rfl)) rfl
               exact o_not (.tmp 84) rfl (true) e0 (tE rfl)
             | 14,ho,hsk=>
               obtain rfl:=Oj9 ho
               have e0:a'.eval (.tmp 77)= .bool true:=is_tq (hin 5 77 (by kernel_rfl) (by kernel_rfl)) rfl
               have e1:a'.eval (.tmp 85)= .bool false:=is_tq (hin 13 85 (by kernel_rfl) (by kernel_rfl)) rfl
               exact o_pick (.tmp 77) (.tmp 85) rfl _ e0 e1 (tE rfl)
           intro w9 hk9
           replace hk9:Kept [] wr w9:=⟨hk9.os,hk9.tape,hk9.output,hk9.size,hk9.block⟩
           simp only [valsQ,List.map_cons,List.map_nil,Option.getD_some,List.take_succ_cons,List.take_zero,putAll,Act.put,List.setIfInBounds_toArray,List.set_cons_succ,List.set_cons_zero]
           refine wpAny_done (by kernel_rfl) ?_ _
           replace HL0:Hid (Lx w w9 b c (j+1) s1 L1 r1 R1 ln1 lr1 (.slice tto T1.length tc) T1 s L q7 q10 x y (.slice zo L.length zc) x1 y1 (.slice z1o L1.length z1c)):=(unhide HL0).step hk9
           clear hk9
           go_upto_region 24 with fail
           refine wp_text_tq 17 rfl (by kernel_rfl) [some (.int .i64 k),some (.pointer (some ⟨q7,12,none⟩)),some (.slice zo L.length zc),some (.int .i64 L.length),some (.bool false),some (.bool false),some (.pointer (some ⟨q10,12,none⟩)),some (.slice z1o L1.length z1c),some (.int .i64 L1.length),some (.pointer (some ⟨q7,12,none⟩)),some (.slice zo L.length zc),some (.int .i64 L.length),some (.int .i64 k),some (.int .i64 ((L.length:Int)-(k:Int))),some (.int .i64 ((L.length:Int)-(k:Int)+1)),some (.bool false),some (.bool false)] rfl (by kernel_rfl) (by kernel_rfl) ?_ ?_
           · intro i o' hi hsk ho a' w2 hout hin hk2
             replace hk2:Kept [] w9 w2:=⟨hk2.os,hk2.tape,hk2.output,hk2.size,hk2.block⟩
             match i,ho,hsk with
             | 0,ho,hsk=>
               obtain rfl:=Oj9 ho
               exact wp_move (.tmp 13) rfl _ ((hout 13 (by kernel_rfl)).trans rfl) (tE rfl)
             | 1,ho,hsk=>
               obtain rfl:=Oj9 ho
               exact o_fld43_5 (.tmp 7) rfl q7 (0) (12) rfl ((hout 7 (by kernel_rfl)).trans rfl) (tE rfl)
             | 2,ho,hsk=>
               obtain rfl:=Oj9 ho
               have e0:a'.eval (.tmp 90)= .pointer (some ⟨q7,12,none⟩):=is_tq (hin 1 90 (by kernel_rfl) (by kernel_rfl)) rfl
               exact o_load38 (.tmp 90) rfl _ _ e0 (fits_cell ((unhide HL0).step hk2).b7 12 _ rfl) (tE rfl)
             | 3,ho,hsk=>
               obtain rfl:=Oj9 ho
               have e0:a'.eval (.tmp 91)= .slice zo L.length zc:=is_tq (hin 2 91 (by kernel_rfl) (by kernel_rfl)) rfl
               exact o_len38 (.tmp 91) rfl _ L.length _ e0 ((unhide HL0).step hk2).wz (tE rfl)
             | 4,ho,hsk=>
               obtain rfl:=Oj9 ho
               have e0:a'.eval (.tmp 89)= .int .i64 k:=is_tq (hin 0 89 (by kernel_rfl) (by kernel_rfl)) rfl
               have e1:a'.eval (.tmp 92)= .int .i64 L.length:=is_tq (hin 3 92 (by kernel_rfl) (by kernel_rfl)) rfl
               exact c_gtr3 (.tmp 89) (.tmp 92) rfl _ _ (false) (unhide D3) e0 e1 (tE rfl)
             | 5,ho,hsk=>
               obtain rfl:=Oj9 ho
               have e0:a'.eval (.tmp 93)= .bool false:=is_tq (hin 4 93 (by kernel_rfl) (by kernel_rfl)) rfl
               exact wp_move (.tmp 93) rfl _ e0 (tE rfl)
             | 6,ho,hsk=>
               obtain rfl:=Oj9 ho
               exact o_fld43_5 (.tmp 10) rfl q10 (0) (12) rfl ((hout 10 (by kernel_rfl)).trans rfl) (tE rfl)
             | 7,ho,hsk=>
               obtain rfl:=Oj9 ho
               have e0:a'.eval (.tmp 95)= .pointer (some ⟨q10,12,none⟩):=is_tq (hin 6 95 (by kernel_rfl) (by kernel_rfl)) rfl
               exact o_load38 (.tmp 95) rfl _ _ e0 (fits_cell ((unhide HL0).step hk2).b10 12 _ rfl) (tE rfl)
             | 8,ho,hsk=>
               obtain rfl:=Oj9 ho
               have e0:a'.eval (.tmp 96)= .slice z1o L1.length z1c:=is_tq (hin 7 96 (by kernel_rfl) (by kernel_rfl)) rfl
               exact o_len38 (.tmp 96) rfl _ L1.length _ e0 ((unhide HL0).step hk2).wz1 (tE rfl)
             | 9,ho,hsk=>
               obtain rfl:=Oj9 ho
               exact o_fld43_5 (.tmp 7) rfl q7 (0) (12) rfl ((hout 7 (by kernel_rfl)).trans rfl) (tE rfl)
             | 10,ho,hsk=>
               obtain rfl:=Oj9 ho
               have e0:a'.eval (.tmp 98)= .pointer (some ⟨q7,12,none⟩):=is_tq (hin 9 98 (by kernel_rfl) (by kernel_rfl)) rfl
               exact o_load38 (.tmp 98) rfl _ _ e0 (fits_cell ((unhide HL0).step hk2).b7 12 _ rfl) (tE rfl)
             | 11,ho,hsk=>
               obtain rfl:=Oj9 ho
               have e0:a'.eval (.tmp 99)= .slice zo L.length zc:=is_tq (hin 10 99 (by kernel_rfl) (by kernel_rfl)) rfl
               exact o_len38 (.tmp 99) rfl _ L.length _ e0 ((unhide HL0).step hk2).wz (tE rfl)
             | 12,ho,hsk=>
               obtain rfl:=Oj9 ho
               exact wp_move (.tmp 13) rfl _ ((hout 13 (by kernel_rfl)).trans rfl) (tE rfl)
             | 13,ho,hsk=>
               obtain rfl:=Oj9 ho
               have e0:a'.eval (.tmp 100)= .int .i64 L.length:=is_tq (hin 11 100 (by kernel_rfl) (by kernel_rfl)) rfl
               have e1:a'.eval (.tmp 101)= .int .i64 k:=is_tq (hin 12 101 (by kernel_rfl) (by kernel_rfl)) rfl
               exact c_sub3 (.tmp 100) (.tmp 101) rfl _ _ (by omega) e0 e1 (tE rfl)
             | 14,ho,hsk=>
               obtain rfl:=Oj9 ho
               have e0:a'.eval (.tmp 102)= .int .i64 ((L.length:Int)-(k:Int)):=is_tq (hin 13 102 (by kernel_rfl) (by kernel_rfl)) rfl
               exact c_add3 (.tmp 102) (.const (.int .i64 (1))) rfl _ _ (by omega) e0 rfl (tE rfl)
             | 15,ho,hsk=>
               obtain rfl:=Oj9 ho
               have e0:a'.eval (.tmp 97)= .int .i64 L1.length:=is_tq (hin 8 97 (by kernel_rfl) (by kernel_rfl)) rfl
               have e1:a'.eval (.tmp 103)= .int .i64 ((L.length:Int)-(k:Int)+1):=is_tq (hin 14 103 (by kernel_rfl) (by kernel_rfl)) rfl
               exact c_gtr3 (.tmp 97) (.tmp 103) rfl _ _ (false) (unhide D4) e0 e1 (tE rfl)
             | 16,ho,hsk=>
               obtain rfl:=Oj9 ho
               have e0:a'.eval (.tmp 94)= .bool false:=is_tq (hin 5 94 (by kernel_rfl) (by kernel_rfl)) rfl
               have e1:a'.eval (.tmp 104)= .bool false:=is_tq (hin 15 104 (by kernel_rfl) (by kernel_rfl)) rfl
               exact o_pickOr0 (.tmp 94) (.tmp 104) rfl _ e0 e1 (tE rfl)
           intro V9 hV9
           replace hV9:Kept [] w9 V9:=⟨hV9.os,hV9.tape,hV9.output,hV9.size,hV9.block⟩
           simp only [valsQ,List.map_cons,List.map_nil,Option.getD_some,List.take_succ_cons,List.take_zero,putAll,Act.put,List.setIfInBounds_toArray,List.set_cons_succ,List.set_cons_zero]
           replace HL0:Hid (Lx w V9 b c (j+1) s1 L1 r1 R1 ln1 lr1 (.slice tto T1.length tc) T1 s L q7 q10 x y (.slice zo L.length zc) x1 y1 (.slice z1o L1.length z1c)):=(unhide HL0).step hV9
           have HS9:=hide (unhide HL0).lw
           clear hV9
           go_wp2_with fail
           go_roundw
           case rel=>exact ⟨j+1,s1,L1,r1,R1,ln1,lr1,_,T1,by omega,by go_num,rfl,HS9⟩
           case measure=>simp [intOf];omega
         · have hkd:k<dd:=by
             rcases Nat.lt_or_ge k dd with h9 | h9
             · exact h9
             · exact absurd (unhide HBG k (by omega)) hbg
           have P24:Hid (∀W,Kept [] wr W→Calls Try.prog 24 #[.slice z1o L1.length z1c,restV 2 zo L.length zc k] W fun e w'=>e= .returned (.bool false)∧Kept [] W w'):=by
             intro W hW
             have h9:=begins24 L1 (L.drop k) _ _ W ((unhide HL0).step hW).wz1 (Ws.restk ((unhide HL0).step hW).wz k hkL) (by rw [List.length_drop];omega)
             rw [decide_eq_false hbg] at h9
             exact h9
           clear hbg
           go_wp2_with fail
           refine wp_region_any mixed (wpAny_tq 15 rfl (by kernel_rfl) [some (.int .i64 k),some (.pointer (some ⟨q7,12,none⟩)),some (.slice zo L.length zc),some (.int .i64 L.length),some (.bool true),some (.bool true),some (.pointer (some ⟨q10,12,none⟩)),some (.slice z1o L1.length z1c),some (.pointer (some ⟨q7,12,none⟩)),some (.slice zo L.length zc),some (.int .i64 k),some (restV 2 zo L.length zc k),some (.bool false),some (.bool true),some (.bool true)] rfl (by kernel_rfl) (by kernel_rfl) ?_ ?_)
           · intro i o' hi hsk ho a' w2 hout hin hk2
             replace hk2:Kept [] wr w2:=⟨hk2.os,hk2.tape,hk2.output,hk2.size,hk2.block⟩
             match i,ho,hsk with
             | 0,ho,hsk=>
               obtain rfl:=Oj9 ho
               exact wp_move (.tmp 13) rfl _ ((hout 13 (by kernel_rfl)).trans rfl) (tE rfl)
             | 1,ho,hsk=>
               obtain rfl:=Oj9 ho
               exact o_fld43_5 (.tmp 7) rfl q7 (0) (12) rfl ((hout 7 (by kernel_rfl)).trans rfl) (tE rfl)
             | 2,ho,hsk=>
               obtain rfl:=Oj9 ho
               have e0:a'.eval (.tmp 73)= .pointer (some ⟨q7,12,none⟩):=is_tq (hin 1 73 (by kernel_rfl) (by kernel_rfl)) rfl
               exact o_load38 (.tmp 73) rfl _ _ e0 (fits_cell ((unhide HL0).step hk2).b7 12 _ rfl) (tE rfl)
             | 3,ho,hsk=>
               obtain rfl:=Oj9 ho
               have e0:a'.eval (.tmp 74)= .slice zo L.length zc:=is_tq (hin 2 74 (by kernel_rfl) (by kernel_rfl)) rfl
               exact o_len38 (.tmp 74) rfl _ L.length _ e0 ((unhide HL0).step hk2).wz (tE rfl)
             | 4,ho,hsk=>
               obtain rfl:=Oj9 ho
               have e0:a'.eval (.tmp 72)= .int .i64 k:=is_tq (hin 0 72 (by kernel_rfl) (by kernel_rfl)) rfl
               have e1:a'.eval (.tmp 75)= .int .i64 L.length:=is_tq (hin 3 75 (by kernel_rfl) (by kernel_rfl)) rfl
               exact c_leq3 (.tmp 72) (.tmp 75) rfl _ _ (true) (decide_eq_true (by omega)) e0 e1 (tE rfl)
             | 5,ho,hsk=>
               obtain rfl:=Oj9 ho
               have e0:a'.eval (.tmp 76)= .bool true:=is_tq (hin 4 76 (by kernel_rfl) (by kernel_rfl)) rfl
               exact wp_move (.tmp 76) rfl _ e0 (tE rfl)
             | 6,ho,hsk=>
               obtain rfl:=Oj9 ho
               exact o_fld43_5 (.tmp 10) rfl q10 (0) (12) rfl ((hout 10 (by kernel_rfl)).trans rfl) (tE rfl)
             | 7,ho,hsk=>
               obtain rfl:=Oj9 ho
               have e0:a'.eval (.tmp 78)= .pointer (some ⟨q10,12,none⟩):=is_tq (hin 6 78 (by kernel_rfl) (by kernel_rfl)) rfl
               exact o_load38 (.tmp 78) rfl _ _ e0 (fits_cell ((unhide HL0).step hk2).b10 12 _ rfl) (tE rfl)
             | 8,ho,hsk=>
               obtain rfl:=Oj9 ho
               exact o_fld43_5 (.tmp 7) rfl q7 (0) (12) rfl ((hout 7 (by kernel_rfl)).trans rfl) (tE rfl)
             | 9,ho,hsk=>
               obtain rfl:=Oj9 ho
               have e0:a'.eval (.tmp 80)= .pointer (some ⟨q7,12,none⟩):=is_tq (hin 8 80 (by kernel_rfl) (by kernel_rfl)) rfl
               exact o_load38 (.tmp 80) rfl _ _ e0 (fits_cell ((unhide HL0).step hk2).b7 12 _ rfl) (tE rfl)
             | 10,ho,hsk=>
               obtain rfl:=Oj9 ho
               exact wp_move (.tmp 13) rfl _ ((hout 13 (by kernel_rfl)).trans rfl) (tE rfl)
             | 11,ho,hsk=>
               obtain rfl:=Oj9 ho
               have e0:a'.eval (.tmp 81)= .slice zo L.length zc:=is_tq (hin 9 81 (by kernel_rfl) (by kernel_rfl)) rfl
               have e1:a'.eval (.tmp 82)= .int .i64 k:=is_tq (hin 10 82 (by kernel_rfl) (by kernel_rfl)) rfl
               exact o_restk (.tmp 81) (.tmp 82) rfl zo L.length zc k (unhide HZC).1 (unhide HZC).2 hkL e0 e1 (tE rfl)
             | 12,ho,hsk=>
               obtain rfl:=Oj9 ho
               have e0:a'.eval (.tmp 79)= .slice z1o L1.length z1c:=is_tq (hin 7 79 (by kernel_rfl) (by kernel_rfl)) rfl
               have e1:a'.eval (.tmp 83)=restV 2 zo L.length zc k:=is_tq (hin 11 83 (by kernel_rfl) (by kernel_rfl)) rfl
               refine wp_callF 24 _ _ rfl #[.slice z1o L1.length z1c,restV 2 zo L.length zc k] (by simp [e0,e1]) (cg24 _ _) ((unhide P24 _ hk2).mono ?_)
               rintro e w3 ⟨rfl,hk3⟩
               exact⟨_,rfl,_,rfl,tq_is _ _ _ _ rfl,hk3,fun _ _ _ _ _=>trivial⟩
             | 13,ho,hsk=>
               obtain rfl:=Oj9 ho
               have e0:a'.eval (.tmp 84)= .bool false:=is_tq (hin 12 84 (by kernel_rfl) (by kernel_rfl)) rfl
               exact o_not (.tmp 84) rfl (false) e0 (tE rfl)
             | 14,ho,hsk=>
               obtain rfl:=Oj9 ho
               have e0:a'.eval (.tmp 77)= .bool true:=is_tq (hin 5 77 (by kernel_rfl) (by kernel_rfl)) rfl
               have e1:a'.eval (.tmp 85)= .bool true:=is_tq (hin 13 85 (by kernel_rfl) (by kernel_rfl)) rfl
               exact o_pick (.tmp 77) (.tmp 85) rfl _ e0 e1 (tE rfl)
           intro w9 hk9
           replace hk9:Kept [] wr w9:=⟨hk9.os,hk9.tape,hk9.output,hk9.size,hk9.block⟩
           simp only [valsQ,List.map_cons,List.map_nil,Option.getD_some,List.take_succ_cons,List.take_zero,putAll,Act.put,List.setIfInBounds_toArray,List.set_cons_succ,List.set_cons_zero]
           refine wpAny_done (by kernel_rfl) ?_ _
           replace HL0:Hid (Lx w w9 b c (j+1) s1 L1 r1 R1 ln1 lr1 (.slice tto T1.length tc) T1 s L q7 q10 x y (.slice zo L.length zc) x1 y1 (.slice z1o L1.length z1c)):=(unhide HL0).step hk9
           clear hk9
           go_wp2_with fail
           go_roundw
           case rel=>exact ⟨k+1,by omega,by go_num,HL0⟩
           case measure=>simp [intOf];omega
   · obtain rfl:j=X.length:=by omega
     have hd:decide ((X.length:Int)<(X.length:Int))=false:=by simp
     have HK:Hid (Kept [] w wr):=(unhide HS).st.du.kept
     go_wp2_with (first |(go_at_call 9;refine(known9 _).mono ?_;rintro e W99 ⟨rfl,K99⟩;replace HK:=hide ((unhide HK).trans K99);refine Stp.go ?_))
     constructor
     go_wp2_with fail
     go_ret
     exact⟨rfl,unhide HK⟩
theorem waits6 (ao:Option Addr) (c0:Nat) (X:List Sp) (w:World) (hX:RowS Sp.C 5 w ao X):Calls Try.prog 6 #[.slice ao X.length c0] w fun x w'=>x= .returned (.bool true)∧Kept [] w w':=by
 cases hl:decide ((200:Int)<(X.length:Int)) with
 | true=>exact waits_a ao c0 X w hl
 | false=>exact waits_b ao c0 X w hl hX
end Go.Proofs.Ytabicgbnloabnaa
