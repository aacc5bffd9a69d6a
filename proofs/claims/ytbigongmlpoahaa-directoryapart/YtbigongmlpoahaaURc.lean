import Derived.Test.YtbigongmlpoahaaURb
namespace Go.Proofs.Ytbigongmlpoahaa
set_option maxHeartbeats 2000000
set_option maxRecDepth 100000
set_option linter.unusedSimpArgs false
open Go.RowKit
def rneed (D:Rk→Rk×List Wi×List Od) (r:Rk):Rk×List Wi×List Od:=((D (r.setPa r.hn false)).1,(D (r.setPa r.hn false)).2.1,[⟨6,r.hn,0,0,0,2147483647⟩]++(D (r.setPa r.hn false)).2.2)
theorem elder_not {w:World} {b:Nat} {ln:Value} {L:List Wi} {T:Nat} {vs:List Value} (hB:Blk w b T vs) (hW:Ws w ln L):∀k,w.heap.size≤k→k∉b::spare ln:=by
 intro k hk hx
 rcases List.mem_cons.1 hx with rfl | hx
 · have:=hB.lt;omega
 · have:=hW.lt (spare_own hx);omega
theorem rdone_len:∀(L:List Wi) (r:Rk),(rdone r L).2.2.length≤8*L.length
 | [],r=>by simp [rdone]
 | x::l,r=>by
   have ih:=rdone_len l
   have h8:=dropTo_len (r.clr.take x).find 8
   rw [rdone,rbeg]
   split
   · split
     · have:=ih (r.clr.take x);simp;omega
     · simp only;split <;> simp <;> omega
   · split
     · split
       · have:=ih (r.clr.take x);simp;omega
       · split
         · simp only [Rk.on];split <;> simp <;> omega
         · simp;omega
     · split
       · have:=ih (((r.clr.take x).setPa (r.clr.take x).hn true).setPa (r.clr.take x).hn false);simp;omega
       · simp;omega
theorem rneed65 (L:List Wi) (Hd:DoneOk L) (r:Rk) (ln:Value) (b:Nat) (w:World) (h:Blk w b 80 (r.C ln)) (hW:Ws w ln L) (hr:r.Ok) (o0:0≤r.op) (o1:r.op+L.length≤1000000) (hL:L.length≤1000):Calls Try.prog 65 #[P0 b] w (RC b ln w (rneed (fun r'=>rdone r' L) r)):=by
 have M:=hide (Mm.one h)
 have HB0:=hide h
 have HW:=hide hW
 have HR:=hide hr
 have hh:=hr.hn
 have hhI:(r.hn:Int)<8:=by omega
 have c27:=fits_cell h 27 _ rfl
 clear h hW hr
 go_enter Try.func65,Try.ntmps65
 go_wp2_with (first |(refine wpSt1 size4 rfl (.tmp 14) (.const (.bool false)) rfl rfl b (10+r.hn) 0 (.bool false) (⟨rfl,rfl⟩) rfl rfl (unhide M) rfl (by show 10+r.hn<40;omega) (Rk.pa_set r ln r.hn hh false) ?_;intro W1 N1;replace M:Hid (Mm [b] w W1 [(b,80,(r.setPa r.hn false).C ln)]):=hide N1;clear N1;clear c27;refine Stp.go ?_))
 constructor
 go_wp2_with (first |(refine wpBuildP (by rfl) #[(0,.const (.int .i64 6)),(1,.tmp 15),(5,.const (.int .i64 2147483647))] (by rfl) #[(0,.int .i64 6),(1,.int .i64 r.hn),(5,.int .i64 2147483647)] (by kernel_rfl) (Od.C ⟨6,r.hn,0,0,0,2147483647⟩) (bod _ 6 r.hn 2147483647) ?_;refine Stp.go ?_))
 constructor
 go_wp2_with (first |(refine wpBs28 rfl (.tmp 16) rfl ⟨6,r.hn,0,0,0,2147483647⟩ rfl ?_;intro W2 g1 e1 B1 K1;have HO1:Hid (Ou w W2 (.slice (some ⟨g1,0,none⟩) 1 1) [⟨6,r.hn,0,0,0,2147483647⟩]):=Ou.made B1 (by rw [e1];exact(unhide M).kept.size);replace M:=hide ((unhide M).step K1);clear e1 B1 K1;refine Stp.go ?_))
 constructor
 go_wp2_with (first |(go_at_call 62;refine(Hd (r.setPa r.hn false) ln b _ ((unhide M).at 0 _ rfl) ((unhide HW).kept (unhide M).kept (Rw.ne (unhide HW) (unhide HB0) (by decide))) (rsetPa_ok (unhide HR) _ _) o0 o1).mono ?_;rintro e W9 ⟨v,ln2,rfl,N9,B9,R9,K9,S9⟩;have HN:=hide N9.row;have HB9:=hide B9;have HR9:=hide R9;have HO2:Hid (Ou w W9 (.slice (some ⟨g1,0,none⟩) 1 1) [⟨6,r.hn,0,0,0,2147483647⟩]):=(unhide HO1).kept K9 (elder_not (unhide HB0) (unhide HW));have HK9:Hid (Kept (b::spare ln) w W9):=((unhide M).kept.mono (by simp)).trans K9;have HS9:Hid (Grw w ln ln2):=⟨fun k hk=>by rcases S9.own k hk with h1 | h1;exact .inl h1;have:=(unhide M).kept.size;exact .inr (by omega),fun k hk=>by rcases S9.spare k hk with h1 | h1;exact .inl h1;have:=(unhide M).kept.size;exact .inr (by omega)⟩;clear N9 B9 R9 K9 S9 HO1;refine Stp.go ?_))
 constructor
 go_wp2_with (first |(refine wpAppN el28 rfl (.tmp 18) (.tmp 20) rfl _ _ _ rfl (unhide HO2) v _ _ rfl (unhide HN) (odC_one _) (by have:=rdone_len L (r.setPa r.hn false);simp;omega) (max1000 (by have:=rdone_len L (r.setPa r.hn false);simp;omega)) (unhide HK9).size ?_;intro v5 W5 N5 K5;have HO5:Hid (Ou w W5 v5 ([⟨6,r.hn,0,0,0,2147483647⟩]++(rdone (r.setPa r.hn false) L).2.2)):=New.app N5;have HB5:Hid (Blk W5 b 80 ((rdone (r.setPa r.hn false) L).1.C ln2)):=(unhide HB9).kept K5 (fun hi=>by have:=(unhide HO2).spare b hi;have:=(unhide HB0).lt;omega);have HR5:Hid (Ws W5 ln2 (rdone (r.setPa r.hn false) L).2.1):=(unhide HR9).kept K5 ((unhide HR9).apart (unhide HO2).row (by decide));have HK5:Hid (Kept (b::spare ln) w W5):=(unhide HK9).fresh K5 (fun i hi hl=>by have:=(unhide HO2).spare i hi;omega);clear N5 K5;refine Stp.go ?_))
 constructor
 go_wp2_with fail
 go_ret
 exact⟨v5,ln2,rfl,unhide HO5,unhide HB5,unhide HR5,unhide HK5,unhide HS9⟩
theorem rbeg_3a (L:List Wi) (Hd:DoneOk L) (r:Rk) (ln:Value) (b:Nat) (w:World) (h:Blk w b 80 (r.C ln)) (hW:Ws w ln L) (hr:r.Ok) (o0:0≤r.op) (o1:r.op+L.length≤1000000) (hL:L.length≤1000) (hk1:¬r.hk=1) (hk2:¬r.hk=2) (ho:r.ow<0):Calls Try.prog 64 #[P0 b] w (RC b ln w (rneed (fun r'=>rdone r' L) (r.setPa r.hn true))):=by
 have M:=hide (Mm.one h)
 have HB0:=hide h
 have HW:=hide hW
 have HR:=hide hr
 have hh:=hr.hn
 have hhI:(r.hn:Int)<8:=by omega
 have c27:=fits_cell h 27 _ rfl
 have c28:=fits_cell h 28 _ rfl
 have hk1a:decide (r.hk=1)=false:=nef_a hk1
 have hk1b:(r.hk == 1)=false:=nef_b hk1
 have hk1c:(r.hk !=1)=true:=nef_c hk1
 have hk2a:decide (r.hk=2)=false:=nef_a hk2
 have hk2b:(r.hk == 2)=false:=nef_b hk2
 have hk2c:(r.hk !=2)=true:=nef_c hk2
 have hod:decide (r.ow<0)=true:=by simpa using ho
 clear h hW hr ho
 go_enter Try.func64,Try.ntmps64
 go_wp2_with (first |(refine wpSt1 size4 rfl (.tmp 130) (.const (.bool true)) rfl rfl b (10+r.hn) 0 (.bool true) (⟨rfl,rfl⟩) rfl rfl (unhide M) rfl (by show 10+r.hn<40;omega) (Rk.pa_set r ln r.hn hh true) ?_;intro W1 N1;replace M:Hid (Mm [b] w W1 [(b,80,(r.setPa r.hn true).C ln)]):=hide N1;clear N1;clear c27 c28;have c1:W1.cell? ⟨b,1,none⟩=some (.int .i64 r.ow):=fits_cell ((unhide M).at 0 _ rfl) 1 _ rfl;refine Stp.go ?_))
 constructor
 go_wp2_with (first |(go_at_call 65;refine(rneed65 L Hd (r.setPa r.hn true) ln b _ ((unhide M).at 0 _ rfl) ((unhide HW).kept (unhide M).kept (Rw.ne (unhide HW) (unhide HB0) (by decide))) (rsetPa_ok (unhide HR) _ _) o0 o1 hL).mono ?_;rintro e W9 ⟨v,ln2,rfl,N9,B9,R9,K9,S9⟩;have HN:=hide (N9.elder (w:=w) (unhide M).kept.size);have HB9:=hide B9;have HR9:=hide R9;have HK9:Hid (Kept (b::spare ln) w W9):=((unhide M).kept.mono (by simp)).trans K9;have HS9:Hid (Grw w ln ln2):=⟨fun k hk=>by rcases S9.own k hk with h1 | h1;exact .inl h1;have:=(unhide M).kept.size;exact .inr (by omega),fun k hk=>by rcases S9.spare k hk with h1 | h1;exact .inl h1;have:=(unhide M).kept.size;exact .inr (by omega)⟩;clear N9 B9 R9 K9 S9 c1;refine Stp.go ?_))
 constructor
 go_wp2_with fail
 go_ret
 exact⟨v,ln2,rfl,unhide HN,unhide HB9,unhide HR9,unhide HK9,unhide HS9⟩
theorem rbeg_3b (L:List Wi) (r:Rk) (ln:Value) (b:Nat) (w:World) (h:Blk w b 80 (r.C ln)) (hW:Ws w ln L) (hr:r.Ok) (hk1:¬r.hk=1) (hk2:¬r.hk=2) (ho:¬r.ow<0):Calls Try.prog 64 #[P0 b] w (RC b ln w ((r.setPa r.hn true).wt1 3,L,[⟨5,r.ow,r.op,0,0,0⟩])):=by
 have M:=hide (Mm.one h)
 have HB0:=hide h
 have HW:=hide hW
 have HR:=hide hr
 have hh:=hr.hn
 have hhI:(r.hn:Int)<8:=by omega
 have c27:=fits_cell h 27 _ rfl
 have c28:=fits_cell h 28 _ rfl
 have hk1a:decide (r.hk=1)=false:=nef_a hk1
 have hk1b:(r.hk == 1)=false:=nef_b hk1
 have hk1c:(r.hk !=1)=true:=nef_c hk1
 have hk2a:decide (r.hk=2)=false:=nef_a hk2
 have hk2b:(r.hk == 2)=false:=nef_b hk2
 have hk2c:(r.hk !=2)=true:=nef_c hk2
 have hod:decide (r.ow<0)=false:=by simpa using ho
 clear h hW hr ho
 go_enter Try.func64,Try.ntmps64
 go_wp2_with (first |(refine wpSt1 size4 rfl (.tmp 130) (.const (.bool true)) rfl rfl b (10+r.hn) 0 (.bool true) (⟨rfl,rfl⟩) rfl rfl (unhide M) rfl (by show 10+r.hn<40;omega) (Rk.pa_set r ln r.hn hh true) ?_;intro W1 N1;replace M:Hid (Mm [b] w W1 [(b,80,(r.setPa r.hn true).C ln)]):=hide N1;clear N1;clear c27 c28;have c1:W1.cell? ⟨b,1,none⟩=some (.int .i64 r.ow):=fits_cell ((unhide M).at 0 _ rfl) 1 _ rfl;refine Stp.go ?_))
 constructor
 go_wp2_with (first |(refine wpSt1 size3 rfl (.tmp 140) (.const (.int .i64 3)) rfl rfl b (29) 0 (.int .i64 3) (⟨rfl,rfl⟩) rfl rfl (unhide M) rfl (show 29+1≤_ from Nat.le_of_ble_eq_true rfl) (rfl) ?_;intro W2 N2;replace M:Hid (Mm [b] w W2 [(b,80,((r.setPa r.hn true).wt1 3).C ln)]):=hide N2;clear N2;clear c1;refine Stp.go ?_))
 constructor
 go_wp2_with fail
 refine wp_region_any mixed (wpAny_gx 11 rfl (by kernel_rfl) [some (P0 b),some (P0 b),some (.pointer (some ⟨b,1,none⟩)),some (.int .i64 r.ow),some (P0 b),some (P0 b),some (.pointer (some ⟨b,39,none⟩)),some (.int .i64 r.op),some (aggV (Od.C ⟨5,r.ow,r.op,0,0,0⟩)),none,none] rfl (by kernel_rfl) (fun l vs W=>(SN [b] w [(b,80,((r.setPa r.hn true).wt1 3).C ln)] 74 (Od.C ⟨5,r.ow,r.op,0,0,0⟩) 9 10) (fun i=>l.getD i false) vs W) (⟨fun _=>(unhide M).drew,(fun h=>by cases h),fun h=>by cases h⟩) ?_ ?_)
 · intro ix o' hi ho a' w2 l vs hls hlf hJ hout hin hdep hnot
   match ix,ho with
   | 0,ho=>
     cases ho
     have e0:=ho9 hout 0
     replace e0:a'.eval (.tmp 0)=_:=e0.trans rfl
     exact wp_move (.tmp 0) rfl _ e0 ⟨_,rfl,told_of rfl,keepG [9,10] SN.loc (by omega) (by decide) hJ⟩
   | 1,ho=>
     cases ho
     exact o_nil (.tmp 141) rfl _ (hx9 (hi9 hin 0 141) rfl) ⟨_,rfl,told_of rfl,keepG [9,10] SN.loc (by omega) (by decide) hJ⟩
   | 2,ho=>
     cases ho
     exact o_fld47_1 (.tmp 142) rfl b (0) (1) rfl (hx9 (hi9 hin 1 142) rfl) ⟨_,rfl,told_of rfl,keepG [9,10] SN.loc (by omega) (by decide) hJ⟩
   | 3,ho=>
     cases ho
     exact o_load3 (.tmp 143) rfl _ _ (hx9 (hi9 hin 2 143) rfl) (fits_cell (SN.at hJ 0 _ rfl) 1 _ rfl) ⟨_,rfl,told_of rfl,keepG [9,10] SN.loc (by omega) (by decide) hJ⟩
   | 4,ho=>
     cases ho
     have e0:=ho9 hout 0
     replace e0:a'.eval (.tmp 0)=_:=e0.trans rfl
     exact wp_move (.tmp 0) rfl _ e0 ⟨_,rfl,told_of rfl,keepG [9,10] SN.loc (by omega) (by decide) hJ⟩
   | 5,ho=>
     cases ho
     exact o_nil (.tmp 145) rfl _ (hx9 (hi9 hin 4 145) rfl) ⟨_,rfl,told_of rfl,keepG [9,10] SN.loc (by omega) (by decide) hJ⟩
   | 6,ho=>
     cases ho
     exact o_fld47_10 (.tmp 146) rfl b (0) (39) rfl (hx9 (hi9 hin 5 146) rfl) ⟨_,rfl,told_of rfl,keepG [9,10] SN.loc (by omega) (by decide) hJ⟩
   | 7,ho=>
     cases ho
     exact o_load2 (.tmp 147) rfl _ _ (hx9 (hi9 hin 6 147) rfl) (fits_cell (SN.at hJ 0 _ rfl) 39 _ rfl) ⟨_,rfl,told_of rfl,keepG [9,10] SN.loc (by omega) (by decide) hJ⟩
   | 8,ho=>
     cases ho
     exact o_boc (.const (.int .i64 5)) (.tmp 144) (.tmp 148) rfl _ _ _ rfl (hx9 (hi9 hin 3 144) rfl) (hx9 (hi9 hin 7 148) rfl) ⟨_,rfl,told_of rfl,keepG [9,10] SN.loc (by omega) (by decide) hJ⟩
   | 9,ho=>
     cases ho
     have e0:a'.eval (.tmp 149)=aggV (Od.C ⟨5,r.ow,r.op,0,0,0⟩):=hx9 (hi9 hin 8 149) rfl
     refine o_bs28 (.tmp 149) rfl _ e0 (fun W g h1 h2 h3=> ?_)
     exact⟨_,rfl,told_no rfl,nextG (by omega) (SN.make hJ hlf (ho9 hnot 10) (by decide) h1 h2 h3)⟩
   | 10,ho=>
     cases ho
     have e0:a'.eval (.tmp 150)=vs 9:=(hi9 hin 9 150).1
     exact wp_assignV (.tmp 150) rfl _ e0 ⟨_,rfl,told_no rfl,nextG (by omega) (SN.give hJ (ho9 hdep 9) (by decide))⟩
 intro l_ vs4 V4 hl hJ htold
 have t0:vs4 0=P0 b:=told_is _ (htold 0 (by decide)) rfl
 have t1:vs4 1=P0 b:=told_is _ (htold 1 (by decide)) rfl
 have t2:vs4 2= .pointer (some ⟨b,1,none⟩):=told_is _ (htold 2 (by decide)) rfl
 have t3:vs4 3= .int .i64 r.ow:=told_is _ (htold 3 (by decide)) rfl
 have t4:vs4 4=P0 b:=told_is _ (htold 4 (by decide)) rfl
 have t5:vs4 5=P0 b:=told_is _ (htold 5 (by decide)) rfl
 have t6:vs4 6= .pointer (some ⟨b,39,none⟩):=told_is _ (htold 6 (by decide)) rfl
 have t7:vs4 7= .int .i64 r.op:=told_is _ (htold 7 (by decide)) rfl
 have t8:vs4 8=aggV (Od.C ⟨5,r.ow,r.op,0,0,0⟩):=told_is _ (htold 8 (by decide)) rfl
 rw [show (List.range 11).map vs4= [vs4 0,vs4 1,vs4 2,vs4 3,vs4 4,vs4 5,vs4 6,vs4 7,vs4 8,vs4 9,vs4 10] from rfl]
 simp only [t0,t1,t2,t3,t4,t5,t6,t7,t8,putAll,Act.put,List.setIfInBounds_toArray,List.set_cons_succ,List.set_cons_zero]
 clear t0 t1 t2 t3 t4 t5 t6 t7 t8 htold
 obtain⟨_,h2,h3⟩:=hJ
 obtain⟨g,eg,hg,hM⟩:=h2 (hl 9 (by decide))
 have e6:=h3 (hl 10 (by decide))
 rw [eg] at e6
 rw [e6,eg]
 have HM:=hide hM
 have HG:=hide hg
 clear h2 h3 hM hg e6 eg hl
 go_wp2_with fail
 go_ret
 exact RR.rc (r:=((r.setPa r.hn true).wt1 3,[⟨5,r.ow,r.op,0,0,0⟩])) ⟨_,rfl,Ou.made ((unhide HM).at 1 _ rfl) (unhide HG),(unhide HM).at 0 _ rfl,(unhide HM).kept⟩ (unhide HB0) (unhide HW)
theorem rbegin_of (L:List Wi) (Hd:DoneOk L) (r:Rk) (ln:Value) (b:Nat) (w:World) (h:Blk w b 80 (r.C ln)) (hW:Ws w ln L) (hr:r.Ok) (o0:0≤r.op) (o1:r.op+L.length≤1000000) (hL:L.length≤1000):Calls Try.prog 64 #[P0 b] w (RC b ln w (rbeg (fun r'=>rdone r' L) r L)):=by
 unfold rbeg
 by_cases hk:r.hk=1
 · rw [if_pos hk]
   by_cases hx:r.x=(r.hn:Int)
   · rw [if_pos (.inl hx)];exact rbeg_1a L Hd r ln b w h hW hr o0 o1 hk hx
   · cases hs:r.sh r.hn with
     | true=>rw [if_pos (.inr rfl)];exact rbeg_1b L Hd r ln b w h hW hr o0 o1 hk hx hs
     | false=>
       rw [if_neg (by simp [hx])]
       by_cases hu:r.find.su<0
       · rw [if_pos hu];exact rbeg_1c L r ln b w h hW hr hk hx hs hu
       · rw [if_neg hu];exact rbeg_1d L r ln b w h hW hr hk hx hs hu
 · rw [if_neg hk]
   by_cases hk2:r.hk=2
   · rw [if_pos hk2]
     by_cases hx:r.x=(r.hn:Int)
     · rw [if_pos hx];exact rbeg_2a L Hd r ln b w h hW hr o0 o1 hk2 hx
     · rw [if_neg hx]
       by_cases hd:r.find.dropTo 8= []
       · rw [if_pos hd];exact rbeg_2b L r ln b w h hW hr hk2 hx hd
       · rw [if_neg hd];exact rbeg_2c L r ln b w h hW hr hk2 hx hd
   · rw [if_neg hk2]
     by_cases ho:r.ow<0
     · rw [if_pos ho];exact rbeg_3a L Hd r ln b w h hW hr o0 o1 hL hk hk2 ho
     · rw [if_neg ho];exact rbeg_3b L r ln b w h hW hr hk hk2 ho
section
variable {ops:Array Oper} {rest:List Oper} {op:Oper} {a:Act} {w:World} {Q:Exit→Act→World→Prop}
theorem wpRest1 {z T:Nat} (hT:T=35∧z=2∨T=81∧z=6) (hgd:op.guard=none) (x:Operand) (ho:op.op= .slice T x (some (.const (.int .i64 1))) none none) (ao:Option Addr) (n c:Nat) (hn:n≤c) (hno:ao=none→n=0∧c=0) (hk:1≤n) (hx:a.eval x= .slice ao n c) (h:wpList Try.prog ops Q rest (a.put op.dst (restV z ao n c 1)) w):wpList Try.prog ops Q (op::rest) a w:=
 wpList_plain hgd fun _ hK=>o_rest1 hT x ho ao n c hn hno hk hx (hK _ _ h)
theorem wpIdx38z (hgd:op.guard=none) (x:Operand) (ho:op.op= .indexAddr 35 x (.const (.int .i64 0))) (g off m c:Nat) (hk:0<m) (hx:a.eval x= .slice (some ⟨g,off,none⟩) m c) (h:wpList Try.prog ops Q rest (a.put op.dst (.pointer (some ⟨g,off,none⟩))) w):wpList Try.prog ops Q (op::rest) a w:=
 wpList_plain hgd fun _ hK=>o_idx38z x ho g off m c hk hx (hK _ _ h)
end
def Rk.han (r:Rk) (x:Wi):Rk:= { r with hn:=x.n,hk:=x.k }
theorem rdone_nil (r:Rk) (ln:Value) (b:Nat) (w:World) (h:Blk w b 80 (r.C ln)) (hW:Ws w ln []):Calls Try.prog 62 #[P0 b] w (RC b ln w (r.clr,[],[])):=by
 obtain⟨ao,cc,rfl,_,_⟩:=hW.sl
 have M:=hide (Mm.one h)
 have HB0:=hide h
 have HW:=hide hW
 clear h hW
 go_enter Try.func62,Try.ntmps62
 go_wp2_with (first |(refine wpBuildZ (T:=38) (wi0.C) build41 rfl rfl ?_;refine Stp.go ?_))
 constructor
 go_wp2_with (first |(refine wpStN row41 rfl (.tmp 6) (.tmp 4) rfl rfl b (27) 0 (wi0.C) rfl rfl rfl (Wi.one _) (unhide M) rfl (Nat.le_of_ble_eq_true rfl) (fun W h=>h.rhandP wi0) ?_;intro W1 N1;replace M:Hid (Mm [b] w W1 [(b,80,(r.han wi0).C (.slice ao 0 cc))]):=hide N1;clear N1;refine Stp.go ?_))
 constructor
 go_wp2_with (first |(refine wpSt1 size3 rfl (.tmp 9) (.const (.int .i64 0)) rfl rfl b (29) 0 (.int .i64 0) (⟨rfl,rfl⟩) rfl rfl (unhide M) rfl (show 29+1≤_ from Nat.le_of_ble_eq_true rfl) (rfl) ?_;intro W2 N2;replace M:Hid (Mm [b] w W2 [(b,80,((r.han wi0).wt1 0).C (.slice ao 0 cc))]):=hide N2;clear N2;refine Stp.go ?_))
 constructor
 go_wp2_with (first |(refine wpSt1 size3 rfl (.tmp 12) (.const (.int .i64 (-1))) rfl rfl b (38) 0 (.int .i64 (-1)) (⟨rfl,rfl⟩) rfl rfl (unhide M) rfl (show 38+1≤_ from Nat.le_of_ble_eq_true rfl) (rfl) ?_;intro W3 N3;replace M:Hid (Mm [b] w W3 [(b,80,(((r.han wi0).wt1 0).su1 (-1)).C (.slice ao 0 cc))]):=hide N3;clear N3;refine Stp.go ?_))
 constructor
 go_wp2_with (first |(refine wpBuildZ (T:=78) (b8 no8) build45 rfl rfl ?_;refine Stp.go ?_))
 constructor
 go_wp2_with (first |(refine wpStN row45 rfl (.tmp 16) (.tmp 14) rfl rfl b (30) 0 (b8 no8) rfl rfl rfl (b8_one _) (unhide M) rfl (Nat.le_of_ble_eq_true rfl) (fun W h=>h.rgnP no8) ?_;intro W4 N4;replace M:Hid (Mm [b] w W4 [(b,80,r.clr.C (.slice ao 0 cc))]):=hide N4;clear N4;have c26:W4.cell? ⟨b,26,none⟩=some (.slice ao 0 cc):=fits_cell ((unhide M).at 0 _ rfl) 26 _ rfl;refine Stp.go ?_))
 constructor
 go_wp2_with fail
 go_ret
 exact RR.rc (r:=(r.clr,[])) ⟨_,rfl,New.nil _ _ _ _,(unhide M).at 0 _ rfl,(unhide M).kept⟩ (unhide HB0) (unhide HW)
theorem rdone_cons (x:Wi) (l:List Wi) (Hd:DoneOk l) (hx:x.Ok) (hl:l.length≤900) (r:Rk) (ln:Value) (b:Nat) (w:World) (h:Blk w b 80 (r.C ln)) (hW:Ws w ln (x::l)) (hr:r.Ok) (o0:0≤r.op) (o1:r.op+(x::l).length≤1000000):Calls Try.prog 62 #[P0 b] w (RC b ln w (rdone r (x::l))):=by
 obtain⟨g1,o1',n1,c1,rfl,hnr,hnc,hr1⟩:=Ws.open hW
 have hn1:0<n1:=by omega
 have hn1I:¬(n1:Int)=0:=by omega
 have hn1Ia:decide ((n1:Int)=0)=false:=nef_a hn1I
 have hn1Ib:((n1:Int) == 0)=false:=nef_b hn1I
 have hn1Ic:((n1:Int) !=0)=true:=nef_c hn1I
 have o1b:r.op+l.length+1≤1000000:=by simp at o1;omega
 have HR:=hide hr
 have HW1:=hide hr1
 have HX:=hide hx
 have HNR:=hide hnr
 clear hr1 hr o1 hx hnr
 have M:=hide (Mm.one h)
 have HB0:=hide h
 have HW:=hide hW
 clear h hW
 go_enter Try.func62,Try.ntmps62
 go_wp2_with (first |(refine wpBuildZ (T:=38) (wi0.C) build41 rfl rfl ?_;refine Stp.go ?_))
 constructor
 go_wp2_with (first |(refine wpStN row41 rfl (.tmp 6) (.tmp 4) rfl rfl b (27) 0 (wi0.C) rfl rfl rfl (Wi.one _) (unhide M) rfl (Nat.le_of_ble_eq_true rfl) (fun W h=>h.rhandP wi0) ?_;intro W1 N1;replace M:Hid (Mm [b] w W1 [(b,80,(r.han wi0).C (.slice (some ⟨g1,o1',none⟩) n1 c1))]):=hide N1;clear N1;refine Stp.go ?_))
 constructor
 go_wp2_with (first |(refine wpSt1 size3 rfl (.tmp 9) (.const (.int .i64 0)) rfl rfl b (29) 0 (.int .i64 0) (⟨rfl,rfl⟩) rfl rfl (unhide M) rfl (show 29+1≤_ from Nat.le_of_ble_eq_true rfl) (rfl) ?_;intro W2 N2;replace M:Hid (Mm [b] w W2 [(b,80,((r.han wi0).wt1 0).C (.slice (some ⟨g1,o1',none⟩) n1 c1))]):=hide N2;clear N2;refine Stp.go ?_))
 constructor
 go_wp2_with (first |(refine wpSt1 size3 rfl (.tmp 12) (.const (.int .i64 (-1))) rfl rfl b (38) 0 (.int .i64 (-1)) (⟨rfl,rfl⟩) rfl rfl (unhide M) rfl (show 38+1≤_ from Nat.le_of_ble_eq_true rfl) (rfl) ?_;intro W3 N3;replace M:Hid (Mm [b] w W3 [(b,80,(((r.han wi0).wt1 0).su1 (-1)).C (.slice (some ⟨g1,o1',none⟩) n1 c1))]):=hide N3;clear N3;refine Stp.go ?_))
 constructor
 go_wp2_with (first |(refine wpBuildZ (T:=78) (b8 no8) build45 rfl rfl ?_;refine Stp.go ?_))
 constructor
 go_wp2_with (first |(refine wpStN row45 rfl (.tmp 16) (.tmp 14) rfl rfl b (30) 0 (b8 no8) rfl rfl rfl (b8_one _) (unhide M) rfl (Nat.le_of_ble_eq_true rfl) (fun W h=>h.rgnP no8) ?_;intro W4 N4;replace M:Hid (Mm [b] w W4 [(b,80,r.clr.C (.slice (some ⟨g1,o1',none⟩) n1 c1))]):=hide N4;clear N4;have c26:W4.cell? ⟨b,26,none⟩=some (.slice (some ⟨g1,o1',none⟩) n1 c1):=fits_cell ((unhide M).at 0 _ rfl) 26 _ rfl;refine Stp.go ?_))
 constructor
 go_wp2_with (first |(refine wpIdx38z rfl (.tmp 27) rfl g1 o1' n1 c1 hn1 rfl ?_;refine Stp.go ?_))
 constructor
 go_wp2_with (first |(refine wpLoadA row41 rfl (.tmp 28) rfl g1 (o1') rfl (x.C) rfl (Ws.first ((unhide HW1).kept (unhide M).kept (Rw.ne (unhide HW1) (unhide HB0) (by decide)))) ?_;refine Stp.go ?_))
 constructor
 go_wp2_with (first |(refine wpStN row41 rfl (.tmp 31) (.tmp 29) rfl rfl b (27) 0 (x.C) rfl rfl rfl (Wi.one _) (unhide M) rfl (Nat.le_of_ble_eq_true rfl) (fun W h=>h.rhandP x) ?_;intro W5 N5;replace M:Hid (Mm [b] w W5 [(b,80,(r.clr.han x).C (.slice (some ⟨g1,o1',none⟩) n1 c1))]):=hide N5;clear N5;clear c26;have c26:W5.cell? ⟨b,26,none⟩=some (.slice (some ⟨g1,o1',none⟩) n1 c1):=fits_cell ((unhide M).at 0 _ rfl) 26 _ rfl;refine Stp.go ?_))
 constructor
 go_wp2_with (first |(refine wpRest1 (Or.inl ⟨rfl,rfl⟩) rfl (.tmp 36) rfl (some ⟨g1,o1',none⟩) n1 c1 hnc (fun h=>by cases h) hn1 rfl ?_;refine Stp.go ?_))
 constructor
 go_wp2_with (first |(refine wpAppN (w0:=w) el38 rfl (.const (.slice none 0 0)) (.tmp 37) rfl _ 0 [] rfl (New.nil _ _ _ _) (restV 2 (some ⟨g1,o1',none⟩) n1 c1 1) l.length (wsC l) rfl (Ws.rest1 ((unhide HW1).kept (unhide M).kept (Rw.ne (unhide HW1) (unhide HB0) (by decide))) (unhide HNR)) (wsC_one _) (by omega) (max1000 (by omega)) (unhide M).kept.size ?_;intro vl W6 N6 K6;have HNl:Hid (New w W6 38 2 vl l.length (wsC l)):=(by have h9:=N6;rw [Nat.zero_add,List.nil_append] at h9;exact h9);replace M:=hide ((unhide M).step (K6.mono (fun k hk=>absurd (show k∈([]:List Nat) from hk) List.not_mem_nil)));clear N6 K6 c26;refine Stp.go ?_))
 constructor
 go_wp2_with (first |(refine wpStK1 size38 rfl (.tmp 40) (.tmp 38) rfl rfl b (26) 0 (vl) ((unhide HNl).row.one) rfl rfl (unhide M) rfl (show 26+1≤_ from Nat.le_of_ble_eq_true rfl) (rfl) ?_;intro W7 N7 KK;replace M:Hid (Mm [b] w W7 [(b,80,(r.clr.han x).C vl)]):=hide N7;replace HNl:Hid (New w W7 38 2 vl l.length (wsC l)):=⟨(unhide HNl).row.kept KK (fun k hk=>by have:=(unhide HNl).own k hk;have:=(unhide HB0).lt;simp;omega),(unhide HNl).own⟩;have c39:W7.cell? ⟨b,39,none⟩=some (.int .i64 r.op):=fits_cell ((unhide M).at 0 _ rfl) 39 _ rfl;clear N7 KK;refine Stp.go ?_))
 constructor
 go_wp2_with (first |(refine wpStK1 size2 rfl (.tmp 47) (.tmp 45) rfl rfl b (39) 0 (.int .i64 (r.op+1)) ⟨rfl,rfl⟩ rfl rfl (unhide M) rfl (show 39+1≤_ from Nat.le_of_ble_eq_true rfl) (rfl) ?_;intro W8 N8 KK;replace M:Hid (Mm [b] w W8 [(b,80,(r.clr.take x).C vl)]):=hide N8;replace HNl:Hid (New w W8 38 2 vl l.length (wsC l)):=⟨(unhide HNl).row.kept KK (fun k hk=>by have:=(unhide HNl).own k hk;have:=(unhide HB0).lt;simp;omega),(unhide HNl).own⟩;clear N8 KK c39;refine Stp.go ?_))
 constructor
 go_wp2_with (first |(go_at_call 64;refine(rbegin_of l Hd (r.clr.take x) vl b _ ((unhide M).at 0 _ rfl) (unhide HNl).row (rtake_ok (rclr_ok (unhide HR)) (unhide HX)) (by show 0≤r.op+1;omega) (by show r.op+1+l.length≤1000000;omega) (by omega)).mono ?_;rintro e W30 ⟨v,ln2,rfl,N9,B9,R9,K9,S9⟩;have HN:=hide (N9.elder (w:=w) (unhide M).kept.size);have HB9:=hide B9;have HR9:=hide R9;have HK9:Hid (Kept [b] w W30):=(unhide M).kept.fresh K9 (fun i hi hl=>by rcases List.mem_cons.1 hi with rfl | hi;simp;have:=(unhide HNl).own i (spare_own hi);omega);have HS9:Hid (Grw w (.slice (some ⟨g1,o1',none⟩) n1 c1) ln2):=⟨fun k hk=> .inr (by rcases S9.own k hk with h1 | h1;exact(unhide HNl).own k h1;have:=(unhide M).kept.size;omega),fun k hk=> .inr (by rcases S9.spare k hk with h1 | h1;exact(unhide HNl).own k (spare_own h1);have:=(unhide M).kept.size;omega)⟩;clear N9 B9 R9 K9 S9;refine Stp.go ?_))
 constructor
 go_wp2_with fail
 go_ret
 exact⟨v,ln2,rfl,unhide HN,unhide HB9,unhide HR9,(unhide HK9).mono (by simp),unhide HS9⟩
theorem rdone_ok:∀(L:List Wi),(∀x∈L,x.Ok)→L.length≤900→DoneOk L
 | [],_,_=>fun r ln b w h hW _ _ _=>rdone_nil r ln b w h hW
 | x::l,ha,hl=>fun r ln b w h hW hr o0 o1=>rdone_cons x l (rdone_ok l (fun y hy=>ha y (by simp [hy])) (by simp at hl;omega)) (ha x (by simp)) (by simp at hl;omega) r ln b w h hW hr o0 o1
theorem rdone62 (L:List Wi) (r:Rk) (ln:Value) (b:Nat) (w:World) (h:Blk w b 80 (r.C ln)) (hW:Ws w ln L) (hr:r.Ok) (ha:∀x∈L,x.Ok) (hl:L.length≤900) (o0:0≤r.op) (o1:r.op+L.length≤1000000):Calls Try.prog 62 #[P0 b] w (RC b ln w (rdone r L)):=rdone_ok L ha hl r ln b w h hW hr o0 o1
def rbegP (r:Rk) (L:List Wi):Rk×List Wi×List Od:=rbeg (fun r'=>rdone r' L) r L
theorem rbegin64 (L:List Wi) (r:Rk) (ln:Value) (b:Nat) (w:World) (h:Blk w b 80 (r.C ln)) (hW:Ws w ln L) (hr:r.Ok) (ha:∀x∈L,x.Ok) (hl:L.length≤900) (o0:0≤r.op) (o1:r.op+L.length≤1000000):Calls Try.prog 64 #[P0 b] w (RC b ln w (rbegP r L)):=rbegin_of L (rdone_ok L ha hl) r ln b w h hW hr o0 o1 (by omega)
end Go.Proofs.Ytbigongmlpoahaa
