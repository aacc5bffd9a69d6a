import Derived.Test.YtabicgbnloabnaaWHa
import Derived.Test.YtabicgbnloabnaaWHc
import Derived.Test.YtabicgbnloabnaaWFs
import Derived.Test.YtabicgbnloabnaaWGz
namespace Go.Proofs.Ytabicgbnloabnaa
set_option maxRecDepth 100000
set_option linter.unusedSimpArgs false
open Go.RowKit
theorem handOver_len (s:Lo):s.handOver.2.length≤8:=by
 unfold Lo.handOver
 simp only
 split
 · exact send_len _ _ _
 · exact drops_len _
theorem handOn_len (s:Lo):s.handOn.2.length≤8:=send_len _ _ _
theorem isGone_len (s:Lo) (n:Nat):(s.isGone n).2.length≤8:=by
 unfold Lo.isGone
 split
 · exact handOver_len _
 · simp
theorem pdo_len (s:Lo) (L:List Wi) (r:Rk) (x:Sp):(pdo s L r x).2.2.length≤8*L.length+16:=by
 have hask:∀y,(askP s L y).2.2.length≤8*L.length+16:=by
   intro y
   unfold askP
   split
   · simp
   · split
     · simp
     · have:=nextP_len (L++ [y]) s
       simp at this;omega
 have haskI:∀m k,(askI s L m k).2.2.length≤8*L.length+16:=by
   intro m k
   unfold askI
   split
   · exact hask _
   · simp
 unfold pdo
 repeat' split
 · unfold wantP
   split
   · exact haskI _ _
   · split
     · exact haskI _ _
     · simp
 · exact haskI _ _
 · unfold goneP
   split
   · have:=isGone_len (s.give x.n.toNat) x.n.toNat
     simp only;omega
   · simp
 · unfold gotP
   split
   · have:=nextP_len L s.now.over
     omega
   · simp
 · unfold relP
   split
   · unfold relN
     split
     · have:=isGone_len (s.give x.n.toNat) x.n.toNat
       simp only;omega
     · split
       · unfold Lo.anew
         split
         · have:=handOn_len (s.give x.n.toNat).opUp
           simp only;omega
         · have:=handOver_len (s.give x.n.toNat).opUp
           simp only;omega
       · split
         · have:=nextP_len L (s.give x.n.toNat).needless.1
           simp only [more,List.length_append]
           simp [Lo.needless] at this⊢
           omega
         · simp
   · simp
 · unfold wroteP
   split
   · have hd:=discards_len s x.p
     unfold wroteN
     split
     · split
       · split
         · have:=nextP_len L s.noPa.over
           simp only [more,List.length_append];omega
         · simp only;omega
       · split
         · have:=nextP_len L s.noPa.noOw.over
           simp only [more,List.length_append];omega
         · simp only;omega
     · simp only;omega
   · simp
 · simp
structure SP (w:World) (B:Bo) (k1 k2:Nat) (d:Nat→Bool) (vs:Nat→Value) (W:World):Prop where
 kept:Kept [] w W
 r1:d k1=true→∃x y z,vs k1=aggV (B.C x y z)∧Bs W B x y z
 r2:d k2=true→∃x y z,vs k2=aggV (B.C x y z)∧Bs W B x y z
theorem SP.loc {w:World} {B:Bo} {k1 k2:Nat} :∀d d' vs vs' W,(∀i∈ [k1,k2],d i=d' i∧vs i=vs' i)→SP w B k1 k2 d vs W→SP w B k1 k2 d' vs' W:=by
 intro d d' vs vs' W H h
 obtain⟨a1,c1⟩:=H k1 (by simp)
 obtain⟨a2,c2⟩:=H k2 (by simp)
 exact⟨h.kept,by rw [← a1,← c1];exact h.r1,by rw [← a2,← c2];exact h.r2⟩
theorem SP.next {w W W':World} {B:Bo} {k1 k2:Nat} {d:Nat→Bool} {vs:Nat→Value} (h:SP w B k1 k2 d vs W) (hk:Kept [] W W') (j:Nat) (v:Value) (n1:j=k1→∃x y z,v=aggV (B.C x y z)∧Bs W' B x y z) (n2:j=k2→∃x y z,v=aggV (B.C x y z)∧Bs W' B x y z):SP w B k1 k2 (fun i=>if i=j then true else d i) (fun i=>if i=j then v else vs i) W':=by
 refine⟨h.kept.trans hk,fun e=> ?_,fun e=> ?_⟩
 · by_cases hj:k1=j
   · simp only [if_pos hj];exact n1 hj.symm
   · simp only [if_neg hj] at e⊢
     obtain⟨x,y,z,e1,e2⟩:=h.r1 e
     exact⟨x,y,z,e1,e2.kept hk⟩
 · by_cases hj:k2=j
   · simp only [if_pos hj];exact n2 hj.symm
   · simp only [if_neg hj] at e⊢
     obtain⟨x,y,z,e1,e2⟩:=h.r2 e
     exact⟨x,y,z,e1,e2.kept hk⟩
theorem Bk.bs {w W:World} {B:Bo} {x y z:Value} (h:Bk w W B x y z):Bs W B x y z:=⟨h.sh.row,h.pa.row,h.ln.row⟩
theorem book_len {s:Lo} {L:List Wi} :(s.book L).sh.length≤1000∧(s.book L).pa.length≤1000:=by
 have h1:=lstTo_len s.shd 8
 have h2:=lstTo_len s.pa 8
 constructor
 · show(lstTo s.shd 8).length≤1000;omega
 · show(lstTo s.pa 8).length≤1000;omega
theorem cg13 (vs:Array Value) (w:World):(callFunc 13 vs).run Try.prog w= .ok (.enter 13 vs) w:=by kernel_rfl
theorem cg14 (vs:Array Value) (w:World):(callFunc 14 vs).run Try.prog w= .ok (.enter 14 vs) w:=by kernel_rfl
theorem cg15 (vs:Array Value) (w:World):(callFunc 15 vs).run Try.prog w= .ok (.enter 15 vs) w:=by kernel_rfl
theorem cg16 (vs:Array Value) (w:World):(callFunc 16 vs).run Try.prog w= .ok (.enter 16 vs) w:=by kernel_rfl
theorem cg17p (vs:Array Value) (w:World):(callFunc 17 vs).run Try.prog w= .ok (.enter 17 vs) w:=by kernel_rfl
structure Lp (base W:World) (b c j:Nat) (s:Lo) (L:List Wi) (ln lr:Value):Prop where
 st:St base W b c j s L s.abs L ln lr
 jv:Jv s
theorem Lp.step {base W W':World} {b c j:Nat} {s:Lo} {L:List Wi} {ln lr:Value} (h:Lp base W b c j s L ln lr) (hk:Kept [] W W'):Lp base W' b c j s L ln lr:=⟨h.st.step hk,h.jv⟩
set_option maxHeartbeats 2000000 in
theorem plays_a (ao:Option Addr) (c0:Nat) (X:List Sp) (w:World) (hl:decide ((200:Int)<(X.length:Int))=true):Calls Try.prog 3 #[.slice ao X.length c0] w fun x w'=>x= .returned (.bool true)∧Kept [] w w':=by
 go_enter Try.func3,Try.ntmps3
 go_wp2_with (first |(go_at_call 9;refine(known9 _).mono ?_;rintro e W99 ⟨rfl,K99⟩;refine Stp.go ?_))
 constructor
 go_wp2_with fail
 go_ret
 exact⟨rfl,K99⟩
set_option maxHeartbeats 16000000 in
theorem plays_b (ao:Option Addr) (c0:Nat) (X:List Sp) (w:World) (hl:decide ((200:Int)<(X.length:Int))=false) (hX:RowS Sp.C 5 w ao X):Calls Try.prog 3 #[.slice ao X.length c0] w fun x w'=>x= .returned (.bool true)∧Kept [] w w':=by
 have HX:=hide hX
 have hlen:(X.length:Int)≤200:=by have:=of_decide_eq_false hl;omega
 clear hX
 go_enter Try.func3,Try.ntmps3
 go_wp2_with (first |(go_at_call 10;refine(new10 _).mono ?_;rintro e W1 ⟨b,rfl,hb1,hB1,K1⟩;have HN1:=hide (And.intro hb1 (And.intro hB1 K1));clear hb1 hB1 K1;refine Stp.go ?_))
 constructor
 go_wp2_with (first |(go_at_call 11;refine(rnew11 _).mono ?_;rintro e W2 ⟨c,rfl,hc2,hC2,K2⟩;have HS:Hid (Lp w W2 b c 0 lo0 [] _ _):=⟨St.new (unhide HN1).1 (unhide HN1).2.1 (unhide HN1).2.2 hc2 hC2 K2,lo0_jv⟩;clear HN1 hc2 hC2 K2;refine Stp.go ?_))
 constructor
 go_wp2_with fail
 go_loopw [5] (fun xi wr=>∃(j:Nat) (s:Lo) (L:List Wi) (ln lr:Value),j≤X.length∧xi= .int .i64 j∧Hid (Lp w wr b c j s L ln lr)) (fun i _=>X.length-(intOf i).toNat)
 case atStart=>exact ⟨0,lo0,[],_,_,by omega,rfl,HS⟩
 case round=>
   clear HS
   obtain⟨j,s,L,ln,lr,hj,rfl,HS⟩:=hrel
   by_cases hlt:j<X.length
   · have hd:decide ((j:Int)<(X.length:Int))=true:=by simp;omega
     obtain⟨sp,hsp⟩:∃x,X[j]?=some x:=⟨_,List.getElem?_eq_getElem hlt⟩
     have HSP:=hide hsp
     have HXW:Hid (RowS Sp.C 5 wr ao X):=(unhide HX).kept (unhide HS).st.du.kept
     have hsim:=pdo_sim (unhide HS).jv (unhide HS).st.gd.all sp
     have PD:=hide ((unhide HS).st.does (by omega) sp)
     have hle:=pdo_len s L s.abs sp
     rw [hsim.1] at PD
     obtain⟨p1,hp⟩:∃p,p=pdo s L s.abs sp:=⟨_,rfl⟩
     rw [← hp] at hsim PD hle
     obtain⟨s1,L1,O1⟩:=p1
     have HJ1:Hid (Jv s1):=hsim.2
     have HLN:Hid (O1.length≤100000):=by have:=(unhide HS).st.gd.len;have h9:O1.length≤8*L.length+16:=hle;show _≤_;omega
     have HJL:Hid (j+1≤201):=by show _≤_;omega
     have HWT:Hid (decide (s1.wt=0)= !s1.busy):=by
       show _=_
       cases hb:s1.busy with
       | false=>simp [wt_ne.2 hb]
       | true=>simp;intro e;have:=wt_ne.1 e;rw [hb] at this;cases this
     clear hp hsim hle hsp
     go_wp2_with (first |(refine wpIdx22 rfl (.tmp 28) (.tmp 29) rfl ao c0 X j sp rfl rfl (unhide HXW) (unhide HSP) ?_;intro g o9 HR9;refine Stp.go ?_))
     constructor
     go_wp2_with (first |(refine wpLoadA row33 rfl (.tmp 30) rfl g o9 rfl sp.C rfl HR9 ?_;clear HR9 HXW HSP;refine Stp.go ?_))
     constructor
     go_wp2_with (first |(go_at_call 12;refine(unhide PD).mono ?_;rintro e W3 ⟨v,v2,ln1,lr1,rfl,N3,M3,hS3⟩;replace HS:Hid (Lp w W3 b c (j+1) s1 L1 ln1 lr1):=⟨hS3,unhide HJ1⟩;have HO:=hide (show Os W3 v O1 from N3.row);have HP:=hide (show Os W3 v2 O1 from M3.row);clear N3 M3 hS3 PD HJ1;refine Stp.go ?_))
     constructor
     go_wp2_with fail
     refine wp_region_any mixed (wpAny_gz 22 rfl [some (v),some (v2),some (.bool true),some (.bool false),some (.bool false),some (P0 b),none,some (P0 c),none,some (.bool true),some (.bool false),some (.bool false),some (.bool false),some (P0 b),some (.bool (!s1.busy)),some (P0 c),some (P0 c),some (.pointer (some ⟨c,29,none⟩)),some (.int .i64 s1.wt),some (.bool (!s1.busy)),some (.bool false),some (.bool false)] (by kernel_rfl) rfl (by kernel_rfl) (fun l vs W=>(SP W3 (s1.book L1) 6 8) (fun i=>l.getD i false) vs W) (⟨(Kept.refl [] _).drew,(fun h=>by cases h),fun h=>by cases h⟩) ?_ ?_)
     · intro ix o' hi ho a' w2 l vs hls hlf hJ hout hin hdep hnot
       match ix,ho with
       | 0,ho=>
         obtain rfl:=Oj9 ho
         have e0:=hout 6 (by kernel_rfl)
         replace e0:a'.eval (.tmp 6)=_:=e0.trans rfl
         exact wp_move (.tmp 6) rfl _ e0 ⟨_,rfl,told_of rfl,keepG [6,8] SP.loc (by omega) (by decide) hJ⟩
       | 1,ho=>
         obtain rfl:=Oj9 ho
         have e0:=hout 7 (by kernel_rfl)
         replace e0:a'.eval (.tmp 7)=_:=e0.trans rfl
         exact wp_move (.tmp 7) rfl _ e0 ⟨_,rfl,told_of rfl,keepG [6,8] SP.loc (by omega) (by decide) hJ⟩
       | 2,ho=>
         obtain rfl:=Oj9 ho
         have e0:a'.eval (.tmp 35)=v:=by have h9:=hin 0 35 (by kernel_rfl) (by kernel_rfl);exact h9.1.trans (told_is _ h9.2 rfl)
         have e1:a'.eval (.tmp 36)=v2:=by have h9:=hin 1 36 (by kernel_rfl) (by kernel_rfl);exact h9.1.trans (told_is _ h9.2 rfl)
         refine wp_callF 13 _ _ rfl #[v,v2] (by simp [e0,e1]) (cg13 _ _) ((same13 O1 O1 v v2 _ ((unhide HO).kept hJ.kept (by simp)) ((unhide HP).kept hJ.kept (by simp)) (unhide HLN)).mono ?_)
         rintro e w3 ⟨rfl,hk3⟩
         exact⟨_,rfl,_,rfl,told_of (by simp),nextG (by omega) (SP.next hJ hk3 2 _ (fun h=>absurd h (by decide)) (fun h=>absurd h (by decide)))⟩
       | 3,ho=>
         obtain rfl:=Oj9 ho
         have e0:a'.eval (.tmp 37)= .bool true:=by have h9:=hin 2 37 (by kernel_rfl) (by kernel_rfl);exact h9.1.trans (told_is _ h9.2 rfl)
         exact o_not (.tmp 37) rfl (true) e0 ⟨_,rfl,told_of rfl,keepG [6,8] SP.loc (by omega) (by decide) hJ⟩
       | 4,ho=>
         obtain rfl:=Oj9 ho
         have e0:a'.eval (.tmp 38)= .bool false:=by have h9:=hin 3 38 (by kernel_rfl) (by kernel_rfl);exact h9.1.trans (told_is _ h9.2 rfl)
         exact wp_move (.tmp 38) rfl _ e0 ⟨_,rfl,told_of rfl,keepG [6,8] SP.loc (by omega) (by decide) hJ⟩
       | 5,ho=>
         obtain rfl:=Oj9 ho
         have e0:=hout 3 (by kernel_rfl)
         replace e0:a'.eval (.tmp 3)=_:=e0.trans rfl
         exact wp_move (.tmp 3) rfl _ e0 ⟨_,rfl,told_of rfl,keepG [6,8] SP.loc (by omega) (by decide) hJ⟩
       | 6,ho=>
         obtain rfl:=Oj9 ho
         have e0:a'.eval (.tmp 40)=P0 b:=by have h9:=hin 5 40 (by kernel_rfl) (by kernel_rfl);exact h9.1.trans (told_is _ h9.2 rfl)
         refine wp_callF 15 _ _ rfl #[P0 b] (by simp [e0]) (cg15 _ _) ((book15 s1 ln1 b L1 _ ((unhide HS).step hJ.kept).st.du.sb ((unhide HS).step hJ.kept).st.du.sw (unhide HS).st.gd.ok.ex (by have:=(unhide HS).st.gd.len;have:=unhide HJL;omega)).mono ?_)
         rintro e w3 ⟨x,y,z,rfl,hB3,hk3⟩
         exact⟨_,rfl,_,rfl,told_no rfl,nextG (by omega) (SP.next hJ hk3 6 _ (fun _=>⟨x,y,z,rfl,hB3.bs⟩) (fun h=>absurd h (by decide)))⟩
       | 7,ho=>
         obtain rfl:=Oj9 ho
         have e0:=hout 4 (by kernel_rfl)
         replace e0:a'.eval (.tmp 4)=_:=e0.trans rfl
         exact wp_move (.tmp 4) rfl _ e0 ⟨_,rfl,told_of rfl,keepG [6,8] SP.loc (by omega) (by decide) hJ⟩
       | 8,ho=>
         obtain rfl:=Oj9 ho
         have e0:a'.eval (.tmp 42)=P0 c:=by have h9:=hin 7 42 (by kernel_rfl) (by kernel_rfl);exact h9.1.trans (told_is _ h9.2 rfl)
         refine wp_callF 16 _ _ rfl #[P0 c] (by simp [e0]) (cg16 _ _) ((rbook16 s1.abs lr1 c L1 _ ((unhide HS).step hJ.kept).st.du.rb ((unhide HS).step hJ.kept).st.du.rr (by have:=(unhide HS).st.gd.len;have:=unhide HJL;omega)).mono ?_)
         rintro e w3 ⟨x,y,z,rfl,hB3,hk3⟩
         rw [book_abs] at hB3⊢
         exact⟨_,rfl,_,rfl,told_no rfl,nextG (by omega) (SP.next hJ hk3 8 _ (fun h=>absurd h (by decide)) (fun _=>⟨x,y,z,rfl,hB3.bs⟩))⟩
       | 9,ho=>
         obtain rfl:=Oj9 ho
         have e0:a'.eval (.tmp 41)=vs 6:=(hin 6 41 (by kernel_rfl) (by kernel_rfl)).1
         have e1:a'.eval (.tmp 43)=vs 8:=(hin 8 43 (by kernel_rfl) (by kernel_rfl)).1
         obtain⟨x1,y1,z1,q1,R1⟩:=hJ.r1 (hdep 6 (by kernel_rfl))
         obtain⟨x2,y2,z2,q2,R2⟩:=hJ.r2 (hdep 8 (by kernel_rfl))
         refine wp_callF 14 _ _ rfl #[aggV ((s1.book L1).C x1 y1 z1),aggV ((s1.book L1).C x2 y2 z2)] (by simp [e0,e1,q1,q2]) (cg14 _ _) ((sameBook14 (s1.book L1) x1 y1 z1 x2 y2 z2 _ R1 R2 book_len.1 book_len.2 (by show L1.length≤1000;have:=(unhide HS).st.gd.len;have:=unhide HJL;omega)).mono ?_)
         rintro e w3 ⟨rfl,hk3⟩
         exact⟨_,rfl,_,rfl,told_of rfl,nextG (by omega) (SP.next hJ hk3 9 _ (fun h=>absurd h (by decide)) (fun h=>absurd h (by decide)))⟩
       | 10,ho=>
         obtain rfl:=Oj9 ho
         have e0:a'.eval (.tmp 44)= .bool true:=by have h9:=hin 9 44 (by kernel_rfl) (by kernel_rfl);exact h9.1.trans (told_is _ h9.2 rfl)
         exact o_not (.tmp 44) rfl (true) e0 ⟨_,rfl,told_of rfl,keepG [6,8] SP.loc (by omega) (by decide) hJ⟩
       | 11,ho=>
         obtain rfl:=Oj9 ho
         have e0:a'.eval (.tmp 39)= .bool false:=by have h9:=hin 4 39 (by kernel_rfl) (by kernel_rfl);exact h9.1.trans (told_is _ h9.2 rfl)
         have e1:a'.eval (.tmp 45)= .bool false:=by have h9:=hin 10 45 (by kernel_rfl) (by kernel_rfl);exact h9.1.trans (told_is _ h9.2 rfl)
         exact o_pickOr0 (.tmp 39) (.tmp 45) rfl _ e0 e1 ⟨_,rfl,told_of rfl,keepG [6,8] SP.loc (by omega) (by decide) hJ⟩
       | 12,ho=>
         obtain rfl:=Oj9 ho
         have e0:a'.eval (.tmp 46)= .bool false:=by have h9:=hin 11 46 (by kernel_rfl) (by kernel_rfl);exact h9.1.trans (told_is _ h9.2 rfl)
         exact wp_move (.tmp 46) rfl _ e0 ⟨_,rfl,told_of rfl,keepG [6,8] SP.loc (by omega) (by decide) hJ⟩
       | 13,ho=>
         obtain rfl:=Oj9 ho
         have e0:=hout 3 (by kernel_rfl)
         replace e0:a'.eval (.tmp 3)=_:=e0.trans rfl
         exact wp_move (.tmp 3) rfl _ e0 ⟨_,rfl,told_of rfl,keepG [6,8] SP.loc (by omega) (by decide) hJ⟩
       | 14,ho=>
         obtain rfl:=Oj9 ho
         have e0:a'.eval (.tmp 48)=P0 b:=by have h9:=hin 13 48 (by kernel_rfl) (by kernel_rfl);exact h9.1.trans (told_is _ h9.2 rfl)
         refine wp_callF 17 _ _ rfl #[P0 b] (by simp [e0]) (cg17p _ _) ((idle17 s1 ln1 b _ ((unhide HS).step hJ.kept).st.du.sb).mono ?_)
         rintro e w3 ⟨rfl,q3⟩
         replace q3:=q3.symm
         subst q3
         exact⟨_,rfl,_,rfl,told_of rfl,nextG (by omega) (SP.next hJ (Kept.refl _ _) 14 _ (fun h=>absurd h (by decide)) (fun h=>absurd h (by decide)))⟩
       | 15,ho=>
         obtain rfl:=Oj9 ho
         have e0:=hout 4 (by kernel_rfl)
         replace e0:a'.eval (.tmp 4)=_:=e0.trans rfl
         exact wp_move (.tmp 4) rfl _ e0 ⟨_,rfl,told_of rfl,keepG [6,8] SP.loc (by omega) (by decide) hJ⟩
       | 16,ho=>
         obtain rfl:=Oj9 ho
         have e0:a'.eval (.tmp 50)=P0 c:=by have h9:=hin 15 50 (by kernel_rfl) (by kernel_rfl);exact h9.1.trans (told_is _ h9.2 rfl)
         exact o_nil (.tmp 50) rfl _ e0 ⟨_,rfl,told_of rfl,keepG [6,8] SP.loc (by omega) (by decide) hJ⟩
       | 17,ho=>
         obtain rfl:=Oj9 ho
         have e0:a'.eval (.tmp 51)=P0 c:=by have h9:=hin 16 51 (by kernel_rfl) (by kernel_rfl);exact h9.1.trans (told_is _ h9.2 rfl)
         exact o_fld47_7 (.tmp 51) rfl c (0) (29) rfl e0 ⟨_,rfl,told_of rfl,keepG [6,8] SP.loc (by omega) (by decide) hJ⟩
       | 18,ho=>
         obtain rfl:=Oj9 ho
         have e0:a'.eval (.tmp 52)= .pointer (some ⟨c,29,none⟩):=by have h9:=hin 17 52 (by kernel_rfl) (by kernel_rfl);exact h9.1.trans (told_is _ h9.2 rfl)
         exact o_load3 (.tmp 52) rfl _ _ e0 (fits_cell ((unhide HS).step hJ.kept).st.du.rb 29 _ rfl) ⟨_,rfl,told_of rfl,keepG [6,8] SP.loc (by omega) (by decide) hJ⟩
       | 19,ho=>
         obtain rfl:=Oj9 ho
         have e0:a'.eval (.tmp 53)= .int .i64 s1.wt:=by have h9:=hin 18 53 (by kernel_rfl) (by kernel_rfl);exact h9.1.trans (told_is _ h9.2 rfl)
         exact c_eql3 (.tmp 53) (.const (.int .i64 (0))) rfl _ _ (!s1.busy) (unhide HWT) e0 rfl ⟨_,rfl,told_of rfl,keepG [6,8] SP.loc (by omega) (by decide) hJ⟩
       | 20,ho=>
         obtain rfl:=Oj9 ho
         have e0:a'.eval (.tmp 49)= .bool (!s1.busy):=by have h9:=hin 14 49 (by kernel_rfl) (by kernel_rfl);exact h9.1.trans (told_is _ h9.2 rfl)
         have e1:a'.eval (.tmp 54)= .bool (!s1.busy):=by have h9:=hin 19 54 (by kernel_rfl) (by kernel_rfl);exact h9.1.trans (told_is _ h9.2 rfl)
         exact c_neq4 (.tmp 49) (.tmp 54) rfl (!s1.busy) e0 e1 ⟨_,rfl,told_of rfl,keepG [6,8] SP.loc (by omega) (by decide) hJ⟩
       | 21,ho=>
         obtain rfl:=Oj9 ho
         have e0:a'.eval (.tmp 47)= .bool false:=by have h9:=hin 12 47 (by kernel_rfl) (by kernel_rfl);exact h9.1.trans (told_is _ h9.2 rfl)
         have e1:a'.eval (.tmp 55)= .bool false:=by have h9:=hin 20 55 (by kernel_rfl) (by kernel_rfl);exact h9.1.trans (told_is _ h9.2 rfl)
         exact o_pickOr0 (.tmp 47) (.tmp 55) rfl _ e0 e1 ⟨_,rfl,told_of rfl,keepG [6,8] SP.loc (by omega) (by decide) hJ⟩
     intro l_ vs4 V4 hl hJ htold
     have t0:vs4 0=v:=told_is _ (htold 0 (by decide)) rfl
     have t1:vs4 1=v2:=told_is _ (htold 1 (by decide)) rfl
     have t2:vs4 2= .bool true:=told_is _ (htold 2 (by decide)) rfl
     have t3:vs4 3= .bool false:=told_is _ (htold 3 (by decide)) rfl
     have t4:vs4 4= .bool false:=told_is _ (htold 4 (by decide)) rfl
     have t5:vs4 5=P0 b:=told_is _ (htold 5 (by decide)) rfl
     have t7:vs4 7=P0 c:=told_is _ (htold 7 (by decide)) rfl
     have t9:vs4 9= .bool true:=told_is _ (htold 9 (by decide)) rfl
     have t10:vs4 10= .bool false:=told_is _ (htold 10 (by decide)) rfl
     have t11:vs4 11= .bool false:=told_is _ (htold 11 (by decide)) rfl
     have t12:vs4 12= .bool false:=told_is _ (htold 12 (by decide)) rfl
     have t13:vs4 13=P0 b:=told_is _ (htold 13 (by decide)) rfl
     have t14:vs4 14= .bool (!s1.busy):=told_is _ (htold 14 (by decide)) rfl
     have t15:vs4 15=P0 c:=told_is _ (htold 15 (by decide)) rfl
     have t16:vs4 16=P0 c:=told_is _ (htold 16 (by decide)) rfl
     have t17:vs4 17= .pointer (some ⟨c,29,none⟩):=told_is _ (htold 17 (by decide)) rfl
     have t18:vs4 18= .int .i64 s1.wt:=told_is _ (htold 18 (by decide)) rfl
     have t19:vs4 19= .bool (!s1.busy):=told_is _ (htold 19 (by decide)) rfl
     have t20:vs4 20= .bool false:=told_is _ (htold 20 (by decide)) rfl
     have t21:vs4 21= .bool false:=told_is _ (htold 21 (by decide)) rfl
     rw [show (List.range 22).map vs4= [vs4 0,vs4 1,vs4 2,vs4 3,vs4 4,vs4 5,vs4 6,vs4 7,vs4 8,vs4 9,vs4 10,vs4 11,vs4 12,vs4 13,vs4 14,vs4 15,vs4 16,vs4 17,vs4 18,vs4 19,vs4 20,vs4 21] from rfl]
     simp only [t0,t1,t2,t3,t4,t5,t7,t9,t10,t11,t12,t13,t14,t15,t16,t17,t18,t19,t20,t21,putAll,Act.put,List.setIfInBounds_toArray,List.set_cons_succ,List.set_cons_zero]
     clear t0 t1 t2 t3 t4 t5 t7 t9 t10 t11 t12 t13 t14 t15 t16 t17 t18 t19 t20 t21 htold
     replace HS:Hid (Lp w V4 b c (j+1) s1 L1 ln1 lr1):=(unhide HS).step hJ.kept
     clear hJ hl HO HP HLN HWT
     go_wp2_with fail
     go_loopw [8] (fun xn wr=>∃k:Nat,k≤10∧xn= .int .i64 ((k:Int)-1)∧Hid (Lp w wr b c (j+1) s1 L1 ln1 lr1)) (fun xn _=>(10-intOf xn).toNat)
     case atStart=>exact ⟨0,by omega,rfl,HS⟩
     case round=>
       clear HS
       obtain⟨k,hk,rfl,HS⟩:=hrel
       by_cases hk9:k<10
       · have hd8:decide ((k:Int)-1≤8)=true:=by simp;omega
         obtain⟨m9,i9,hm9⟩:∃m9 i9,holdsP s1 ((k:Int)-1)=(m9,i9):=⟨_,_,rfl⟩
         have P18:=hide (show Calls Try.prog 18 #[P0 b,.int .i64 ((k:Int)-1)] wr fun e w'=>e= .returned (.tuple #[.int .i64 m9,.bool i9])∧w'=wr from by have h9:=holds18 s1 ln1 b ((k:Int)-1) wr (unhide HS).st.du.sb;rw [hm9] at h9;exact h9)
         have P19:=hide (show Calls Try.prog 19 #[P0 c,.int .i64 ((k:Int)-1)] wr fun e w'=>e= .returned (.tuple #[.int .i64 m9,.bool i9])∧w'=wr from by have h9:=rholds19 s1.abs lr1 c ((k:Int)-1) wr (unhide HS).st.du.rb;rw [rholds_abs (unhide HS).jv,hm9] at h9;exact h9)
         clear hm9
         cases i9
         all_goals
           go_wp2_with (first |(go_at_call 18;refine(unhide P18).mono ?_;rintro e W8 ⟨rfl,q8⟩;replace q8:=q8.symm;subst q8;refine Stp.go ?_))
           constructor
           go_wp2_with (first |(go_at_call 19;refine(unhide P19).mono ?_;rintro e W8 ⟨rfl,q8⟩;replace q8:=q8.symm;subst q8;refine Stp.go ?_))
           constructor
           go_wp2_with fail
           go_roundw
           case rel=>exact ⟨k+1,by omega,by go_num,HS⟩
           case measure=>simp [intOf];omega
       · obtain rfl:k=10:=by omega
         have hd8:decide (((10:Nat):Int)-1≤8)=false:=by decide
         go_wp2_with fail
         go_roundw
         case rel=>exact ⟨j+1,s1,L1,ln1,lr1,by omega,by go_num,HS⟩
         case measure=>simp [intOf];omega
   · obtain rfl:j=X.length:=by omega
     have hd:decide ((X.length:Int)<(X.length:Int))=false:=by simp
     have HK:=hide (unhide HS).st.du.kept
     go_wp2_with (first |(go_at_call 9;refine(known9 _).mono ?_;rintro e W99 ⟨rfl,K99⟩;replace HK:=hide ((unhide HK).trans K99);refine Stp.go ?_))
     constructor
     go_wp2_with fail
     go_ret
     exact⟨rfl,unhide HK⟩
theorem plays3 (ao:Option Addr) (c0:Nat) (X:List Sp) (w:World) (hX:RowS Sp.C 5 w ao X):Calls Try.prog 3 #[.slice ao X.length c0] w fun x w'=>x= .returned (.bool true)∧Kept [] w w':=by
 cases hl:decide ((200:Int)<(X.length:Int)) with
 | true=>exact plays_a ao c0 X w hl
 | false=>exact plays_b ao c0 X w hl hX
end Go.Proofs.Ytabicgbnloabnaa
