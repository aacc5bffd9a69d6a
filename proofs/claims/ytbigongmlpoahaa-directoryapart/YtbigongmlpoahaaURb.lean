import Derived.Test.YtbigongmlpoahaaURa
import Derived.Test.YtbigongmlpoahaaUPa
namespace Go.Proofs.Ytbigongmlpoahaa
set_option maxHeartbeats 4000000
set_option maxRecDepth 100000
set_option linter.unusedSimpArgs false
open Go.RowKit
def Rk.setPa (r:Rk) (n:Nat) (v:Bool):Rk:= { r with pa:=upd r.pa n v }
def Rk.clr (r:Rk):Rk:= { r with hn:=0,hk:=0,wt:=0,su:= -1,gn:=no8 }
def Rk.take (r:Rk) (x:Wi):Rk:= { r with hn:=x.n,hk:=x.k,op:=r.op+1 }
def Rk.og (r:Rk) (i:Nat):Bool:=r.sh i&& !decide ((i:Int)=(r.hn:Int))&& !decide ((i:Int)=r.su)
def Rk.gnTo (r:Rk) (j:Nat):Rk:= { r with gn:=fun i=>if i<j then r.og i else r.gn i }
def Rk.dropTo (r:Rk):Nat→List Od
 | 0=> []
 | j+1=>r.dropTo j++(if r.og j then [⟨4,j,r.op,0,0,0⟩] else [])
theorem dropTo_len (r:Rk):∀j,(r.dropTo j).length≤j
 | 0=>by simp [Rk.dropTo]
 | j+1=>by
   have:=dropTo_len r j
   rw [Rk.dropTo,List.length_append]
   split <;> simp <;> omega
def rbeg (D:Rk→Rk×List Wi×List Od) (r:Rk) (L:List Wi):Rk×List Wi×List Od:=
 if r.hk=1 then
   (if r.x=(r.hn:Int)∨r.sh r.hn=true then D r else (r.find.wt1 2,L,if r.find.su<0 then [⟨1,r.hn,r.op,1,0,0⟩] else [⟨2,r.find.su,r.op,0,r.hn,0⟩]))
 else if r.hk=2 then
   (if r.x=(r.hn:Int) then D r else if r.find.dropTo 8= [] then ((r.find.gnTo 8).on.1,L,(r.find.gnTo 8).on.2) else ((r.find.gnTo 8).wt1 1,L,r.find.dropTo 8))
 else if r.ow<0 then ((D ((r.setPa r.hn true).setPa r.hn false)).1,(D ((r.setPa r.hn true).setPa r.hn false)).2.1,[⟨6,r.hn,0,0,0,2147483647⟩]++(D ((r.setPa r.hn true).setPa r.hn false)).2.2)
 else ((r.setPa r.hn true).wt1 3,L,[⟨5,r.ow,r.op,0,0,0⟩])
def rdone (r:Rk):List Wi→Rk×List Wi×List Od
 | []=>(r.clr,[],[])
 | x::l=>rbeg (fun r'=>rdone r' l) (r.clr.take x) l
@[reducible] def RC (b:Nat) (ln:Value) (w:World) (r:Rk×List Wi×List Od) (e:Ending) (w':World):Prop:=∃v ln',e= .returned v∧Ou w w' v r.2.2∧Blk w' b 80 (r.1.C ln')∧Ws w' ln' r.2.1∧Kept (b::spare ln) w w'∧Grw w ln ln'
theorem RR.rc {b:Nat} {ln:Value} {w:World} {r:Rk×List Od} {L:List Wi} {s:Rk} {e:Ending} {w':World} (h:RR b ln w r e w') (hB:Blk w b 80 (s.C ln)) (hW:Ws w ln L):RC b ln w (r.1,L,r.2) e w':=by
 obtain⟨v,h1,h2,h3,h5⟩:=h
 exact⟨v,ln,h1,h2,h3,hW.kept h5 (Rw.ne hW hB (by decide)),h5.mono (by simp),Grw.refl _ _⟩
theorem rclr_ok {r:Rk} (h:r.Ok):r.clr.Ok:=⟨h.x,h.ow,by simp [Rk.clr],by simp [Rk.clr]⟩
theorem rtake_ok {r:Rk} (h:r.Ok) {x:Wi} (hx:x.Ok):(r.take x).Ok:=⟨h.x,h.ow,h.su,hx.1⟩
theorem rsetPa_ok {r:Rk} (h:r.Ok) (n:Nat) (v:Bool):(r.setPa n v).Ok:=⟨h.x,h.ow,h.su,h.hn⟩
def DoneOk (L:List Wi):Prop:=∀(r:Rk) (ln:Value) (b:Nat) (w:World),Blk w b 80 (r.C ln)→Ws w ln L→r.Ok→0≤r.op→r.op+L.length≤1000000→Calls Try.prog 62 #[P0 b] w (RC b ln w (rdone r L))
theorem rbeg_1a (L:List Wi) (Hd:DoneOk L) (r:Rk) (ln:Value) (b:Nat) (w:World) (h:Blk w b 80 (r.C ln)) (hW:Ws w ln L) (hr:r.Ok) (o0:0≤r.op) (o1:r.op+L.length≤1000000) (hk:r.hk=1) (hx:r.x=(r.hn:Int)):Calls Try.prog 64 #[P0 b] w (RC b ln w (rdone r L)):=by
 have M:=hide (Mm.one h)
 have HB0:=hide h
 have HW:=hide hW
 have HR:=hide hr
 have hh:=hr.hn
 have hhI:(r.hn:Int)<8:=by omega
 have c27:=fits_cell h 27 _ rfl
 have c28:=fits_cell h 28 _ rfl
 have c0:=fits_cell h 0 _ rfl
 rw [hk] at c28
 rw [hx] at c0
 clear hk hx
 clear h hW hr
 go_enter Try.func64,Try.ntmps64
 go_wp2_with (first |(go_at_call 62;refine(Hd r ln b _ ((unhide M).at 0 _ rfl) ((unhide HW).kept (unhide M).kept (Rw.ne (unhide HW) (unhide HB0) (by decide))) (unhide HR) o0 o1).mono ?_;rintro e W9 ⟨v,ln2,rfl,N9,B9,R9,K9,S9⟩;have HN:=hide N9;have HB9:=hide B9;have HR9:=hide R9;have HK9:=hide K9;have HS9:=hide S9;clear N9 B9 R9 K9 S9;refine Stp.go ?_))
 constructor
 go_wp2_with fail
 go_ret
 exact⟨v,ln2,rfl,unhide HN,unhide HB9,unhide HR9,unhide HK9,unhide HS9⟩
theorem rbeg_1b (L:List Wi) (Hd:DoneOk L) (r:Rk) (ln:Value) (b:Nat) (w:World) (h:Blk w b 80 (r.C ln)) (hW:Ws w ln L) (hr:r.Ok) (o0:0≤r.op) (o1:r.op+L.length≤1000000) (hk:r.hk=1) (hx:¬r.x=(r.hn:Int)) (hs:r.sh r.hn=true):Calls Try.prog 64 #[P0 b] w (RC b ln w (rdone r L)):=by
 have M:=hide (Mm.one h)
 have HB0:=hide h
 have HW:=hide hW
 have HR:=hide hr
 have hh:=hr.hn
 have hhI:(r.hn:Int)<8:=by omega
 have c27:=fits_cell h 27 _ rfl
 have c28:=fits_cell h 28 _ rfl
 have c0:=fits_cell h 0 _ rfl
 rw [hk] at c28
 clear hk
 have hxa:decide (r.x=(r.hn:Int))=false:=nef_a hx
 have hxb:(r.x == (r.hn:Int))=false:=nef_b hx
 have hxc:(r.x !=(r.hn:Int))=true:=nef_c hx
 have cs:=h.rsh hh
 rw [hs] at cs
 clear hs
 clear h hW hr
 go_enter Try.func64,Try.ntmps64
 go_wp2_with (first |(go_at_call 62;refine(Hd r ln b _ ((unhide M).at 0 _ rfl) ((unhide HW).kept (unhide M).kept (Rw.ne (unhide HW) (unhide HB0) (by decide))) (unhide HR) o0 o1).mono ?_;rintro e W9 ⟨v,ln2,rfl,N9,B9,R9,K9,S9⟩;have HN:=hide N9;have HB9:=hide B9;have HR9:=hide R9;have HK9:=hide K9;have HS9:=hide S9;clear N9 B9 R9 K9 S9;refine Stp.go ?_))
 constructor
 go_wp2_with fail
 go_ret
 exact⟨v,ln2,rfl,unhide HN,unhide HB9,unhide HR9,unhide HK9,unhide HS9⟩
theorem rbeg_2a (L:List Wi) (Hd:DoneOk L) (r:Rk) (ln:Value) (b:Nat) (w:World) (h:Blk w b 80 (r.C ln)) (hW:Ws w ln L) (hr:r.Ok) (o0:0≤r.op) (o1:r.op+L.length≤1000000) (hk:r.hk=2) (hx:r.x=(r.hn:Int)):Calls Try.prog 64 #[P0 b] w (RC b ln w (rdone r L)):=by
 have M:=hide (Mm.one h)
 have HB0:=hide h
 have HW:=hide hW
 have HR:=hide hr
 have hh:=hr.hn
 have hhI:(r.hn:Int)<8:=by omega
 have c27:=fits_cell h 27 _ rfl
 have c28:=fits_cell h 28 _ rfl
 have c0:=fits_cell h 0 _ rfl
 rw [hk] at c28
 rw [hx] at c0
 clear hk hx
 clear h hW hr
 go_enter Try.func64,Try.ntmps64
 go_wp2_with (first |(go_at_call 62;refine(Hd r ln b _ ((unhide M).at 0 _ rfl) ((unhide HW).kept (unhide M).kept (Rw.ne (unhide HW) (unhide HB0) (by decide))) (unhide HR) o0 o1).mono ?_;rintro e W9 ⟨v,ln2,rfl,N9,B9,R9,K9,S9⟩;have HN:=hide N9;have HB9:=hide B9;have HR9:=hide R9;have HK9:=hide K9;have HS9:=hide S9;clear N9 B9 R9 K9 S9;refine Stp.go ?_))
 constructor
 go_wp2_with fail
 go_ret
 exact⟨v,ln2,rfl,unhide HN,unhide HB9,unhide HR9,unhide HK9,unhide HS9⟩
theorem rbeg_1c (L:List Wi) (r:Rk) (ln:Value) (b:Nat) (w:World) (h:Blk w b 80 (r.C ln)) (hW:Ws w ln L) (hr:r.Ok) (hk:r.hk=1) (hx:¬r.x=(r.hn:Int)) (hs:r.sh r.hn=false) (hu:r.find.su<0):Calls Try.prog 64 #[P0 b] w (RC b ln w (r.find.wt1 2,L,[⟨1,r.hn,r.op,1,0,0⟩])):=by
 have M:=hide (Mm.one h)
 have HB0:=hide h
 have HW:=hide hW
 have HR:=hide hr
 have hh:=hr.hn
 have hhI:(r.hn:Int)<8:=by omega
 have c27:=fits_cell h 27 _ rfl
 have c28:=fits_cell h 28 _ rfl
 have c0:=fits_cell h 0 _ rfl
 rw [hk] at c28
 clear hk
 have hxa:decide (r.x=(r.hn:Int))=false:=nef_a hx
 have hxb:(r.x == (r.hn:Int))=false:=nef_b hx
 have hxc:(r.x !=(r.hn:Int))=true:=nef_c hx
 have cs:=h.rsh hh
 rw [hs] at cs
 clear hs
 have hud:decide (r.find.su<0)=true:=by simpa using hu
 clear h hW hr hu
 go_enter Try.func64,Try.ntmps64
 go_wp2_with (first |(go_at_call 90;refine(supply71 r ln b _ ((unhide M).at 0 _ rfl) (unhide HR)).mono ?_;rintro e W1 ⟨rfl,B1,K1⟩;replace M:Hid (Mm [b] w W1 [(b,80,r.find.C ln)]):=hide ((unhide M).mut 0 rfl K1 B1);clear B1 K1;clear c27 c28 c0 cs;refine Stp.go ?_))
 constructor
 go_wp2_with (first |(refine wpSt1 size3 rfl (.tmp 38) (.const (.int .i64 2)) rfl rfl b (29) 0 (.int .i64 2) (⟨rfl,rfl⟩) rfl rfl (unhide M) rfl (show 29+1≤_ from Nat.le_of_ble_eq_true rfl) (rfl) ?_;intro W2 N2;replace M:Hid (Mm [b] w W2 [(b,80,(r.find.wt1 2).C ln)]):=hide N2;clear N2;have c38:W2.cell? ⟨b,38,none⟩=some (.int .i64 r.find.su):=fits_cell ((unhide M).at 0 _ rfl) 38 _ rfl;have c39:W2.cell? ⟨b,39,none⟩=some (.int .i64 r.op):=fits_cell ((unhide M).at 0 _ rfl) 39 _ rfl;refine Stp.go ?_))
 constructor
 go_wp2_with (first |(refine wpBuildP (by rfl) #[(0,.const (.int .i64 1)),(1,.tmp 44),(2,.tmp 48),(3,.const (.int .i64 1))] (by rfl) #[(0,.int .i64 1),(1,.int .i64 r.hn),(2,.int .i64 r.op),(3,.int .i64 1)] (by kernel_rfl) (Od.C ⟨1,r.hn,r.op,1,0,0⟩) (boa _ 1 r.hn r.op 1) ?_;refine Stp.go ?_))
 constructor
 go_wp2_with (first |(refine wpBs28 rfl (.tmp 49) rfl ⟨1,r.hn,r.op,1,0,0⟩ rfl ?_;intro W3 g1 e1 B1 K1;have HG:Hid (w.heap.size≤g1):=(by show _≤_;rw [e1];exact(unhide M).kept.size);replace M:=hide ((unhide M).new e1 B1 K1);clear e1 B1 K1 c38 c39;refine Stp.go ?_))
 constructor
 go_wp2_with fail
 go_ret
 exact RR.rc (r:=(r.find.wt1 2,[⟨1,r.hn,r.op,1,0,0⟩])) ⟨_,rfl,Ou.made ((unhide M).at 1 _ rfl) (unhide HG),(unhide M).at 0 _ rfl,(unhide M).kept⟩ (unhide HB0) (unhide HW)
theorem rbeg_1d (L:List Wi) (r:Rk) (ln:Value) (b:Nat) (w:World) (h:Blk w b 80 (r.C ln)) (hW:Ws w ln L) (hr:r.Ok) (hk:r.hk=1) (hx:¬r.x=(r.hn:Int)) (hs:r.sh r.hn=false) (hu:¬r.find.su<0):Calls Try.prog 64 #[P0 b] w (RC b ln w (r.find.wt1 2,L,[⟨2,r.find.su,r.op,0,r.hn,0⟩])):=by
 have M:=hide (Mm.one h)
 have HB0:=hide h
 have HW:=hide hW
 have HR:=hide hr
 have hh:=hr.hn
 have hhI:(r.hn:Int)<8:=by omega
 have c27:=fits_cell h 27 _ rfl
 have c28:=fits_cell h 28 _ rfl
 have c0:=fits_cell h 0 _ rfl
 rw [hk] at c28
 clear hk
 have hxa:decide (r.x=(r.hn:Int))=false:=nef_a hx
 have hxb:(r.x == (r.hn:Int))=false:=nef_b hx
 have hxc:(r.x !=(r.hn:Int))=true:=nef_c hx
 have cs:=h.rsh hh
 rw [hs] at cs
 clear hs
 have hud:decide (r.find.su<0)=false:=by simpa using hu
 clear h hW hr hu
 go_enter Try.func64,Try.ntmps64
 go_wp2_with (first |(go_at_call 90;refine(supply71 r ln b _ ((unhide M).at 0 _ rfl) (unhide HR)).mono ?_;rintro e W1 ⟨rfl,B1,K1⟩;replace M:Hid (Mm [b] w W1 [(b,80,r.find.C ln)]):=hide ((unhide M).mut 0 rfl K1 B1);clear B1 K1;clear c27 c28 c0 cs;refine Stp.go ?_))
 constructor
 go_wp2_with (first |(refine wpSt1 size3 rfl (.tmp 38) (.const (.int .i64 2)) rfl rfl b (29) 0 (.int .i64 2) (⟨rfl,rfl⟩) rfl rfl (unhide M) rfl (show 29+1≤_ from Nat.le_of_ble_eq_true rfl) (rfl) ?_;intro W2 N2;replace M:Hid (Mm [b] w W2 [(b,80,(r.find.wt1 2).C ln)]):=hide N2;clear N2;have c38:W2.cell? ⟨b,38,none⟩=some (.int .i64 r.find.su):=fits_cell ((unhide M).at 0 _ rfl) 38 _ rfl;have c39:W2.cell? ⟨b,39,none⟩=some (.int .i64 r.op):=fits_cell ((unhide M).at 0 _ rfl) 39 _ rfl;refine Stp.go ?_))
 constructor
 go_wp2_with fail
 clear c38 c39
 refine wp_region_any mixed (wpAny_gx 12 rfl (by kernel_rfl) [some (P0 b),some (P0 b),some (.pointer (some ⟨b,38,none⟩)),some (.int .i64 r.find.su),some (P0 b),some (P0 b),some (.pointer (some ⟨b,39,none⟩)),some (.int .i64 r.op),some (.int .i64 r.hn),some (aggV (Od.C ⟨2,r.find.su,r.op,0,r.hn,0⟩)),none,none] rfl (by kernel_rfl) (fun l vs W=>(SN [b] w [(b,80,(r.find.wt1 2).C ln)] 74 (Od.C ⟨2,r.find.su,r.op,0,r.hn,0⟩) 10 11) (fun i=>l.getD i false) vs W) (⟨fun _=>(unhide M).drew,(fun h=>by cases h),fun h=>by cases h⟩) ?_ ?_)
 · intro ix o' hi ho a' w2 l vs hls hlf hJ hout hin hdep hnot
   match ix,ho with
   | 0,ho=>
     cases ho
     have e0:=ho9 hout 0
     replace e0:a'.eval (.tmp 0)=_:=e0.trans rfl
     exact wp_move (.tmp 0) rfl _ e0 ⟨_,rfl,told_of rfl,keepG [10,11] SN.loc (by omega) (by decide) hJ⟩
   | 1,ho=>
     cases ho
     exact o_nil (.tmp 51) rfl _ (hx9 (hi9 hin 0 51) rfl) ⟨_,rfl,told_of rfl,keepG [10,11] SN.loc (by omega) (by decide) hJ⟩
   | 2,ho=>
     cases ho
     exact o_fld47_9 (.tmp 52) rfl b (0) (38) rfl (hx9 (hi9 hin 1 52) rfl) ⟨_,rfl,told_of rfl,keepG [10,11] SN.loc (by omega) (by decide) hJ⟩
   | 3,ho=>
     cases ho
     exact o_load3 (.tmp 53) rfl _ _ (hx9 (hi9 hin 2 53) rfl) (fits_cell (SN.at hJ 0 _ rfl) 38 _ rfl) ⟨_,rfl,told_of rfl,keepG [10,11] SN.loc (by omega) (by decide) hJ⟩
   | 4,ho=>
     cases ho
     have e0:=ho9 hout 0
     replace e0:a'.eval (.tmp 0)=_:=e0.trans rfl
     exact wp_move (.tmp 0) rfl _ e0 ⟨_,rfl,told_of rfl,keepG [10,11] SN.loc (by omega) (by decide) hJ⟩
   | 5,ho=>
     cases ho
     exact o_nil (.tmp 55) rfl _ (hx9 (hi9 hin 4 55) rfl) ⟨_,rfl,told_of rfl,keepG [10,11] SN.loc (by omega) (by decide) hJ⟩
   | 6,ho=>
     cases ho
     exact o_fld47_10 (.tmp 56) rfl b (0) (39) rfl (hx9 (hi9 hin 5 56) rfl) ⟨_,rfl,told_of rfl,keepG [10,11] SN.loc (by omega) (by decide) hJ⟩
   | 7,ho=>
     cases ho
     exact o_load2 (.tmp 57) rfl _ _ (hx9 (hi9 hin 6 57) rfl) (fits_cell (SN.at hJ 0 _ rfl) 39 _ rfl) ⟨_,rfl,told_of rfl,keepG [10,11] SN.loc (by omega) (by decide) hJ⟩
   | 8,ho=>
     cases ho
     have e0:=ho9 hout 3
     replace e0:a'.eval (.tmp 3)=_:=e0.trans rfl
     exact wp_move (.tmp 3) rfl _ e0 ⟨_,rfl,told_of rfl,keepG [10,11] SN.loc (by omega) (by decide) hJ⟩
   | 9,ho=>
     cases ho
     exact o_bob (.const (.int .i64 2)) (.tmp 54) (.tmp 58) (.tmp 59) rfl _ _ _ _ rfl (hx9 (hi9 hin 3 54) rfl) (hx9 (hi9 hin 7 58) rfl) (hx9 (hi9 hin 8 59) rfl) ⟨_,rfl,told_of rfl,keepG [10,11] SN.loc (by omega) (by decide) hJ⟩
   | 10,ho=>
     cases ho
     have e0:a'.eval (.tmp 60)=aggV (Od.C ⟨2,r.find.su,r.op,0,r.hn,0⟩):=hx9 (hi9 hin 9 60) rfl
     refine o_bs28 (.tmp 60) rfl _ e0 (fun W g h1 h2 h3=> ?_)
     exact⟨_,rfl,told_no rfl,nextG (by omega) (SN.make hJ hlf (ho9 hnot 11) (by decide) h1 h2 h3)⟩
   | 11,ho=>
     cases ho
     have e0:a'.eval (.tmp 61)=vs 10:=(hi9 hin 10 61).1
     exact wp_assignV (.tmp 61) rfl _ e0 ⟨_,rfl,told_no rfl,nextG (by omega) (SN.give hJ (ho9 hdep 10) (by decide))⟩
 intro l_ vs4 V4 hl hJ htold
 have t0:vs4 0=P0 b:=told_is _ (htold 0 (by decide)) rfl
 have t1:vs4 1=P0 b:=told_is _ (htold 1 (by decide)) rfl
 have t2:vs4 2= .pointer (some ⟨b,38,none⟩):=told_is _ (htold 2 (by decide)) rfl
 have t3:vs4 3= .int .i64 r.find.su:=told_is _ (htold 3 (by decide)) rfl
 have t4:vs4 4=P0 b:=told_is _ (htold 4 (by decide)) rfl
 have t5:vs4 5=P0 b:=told_is _ (htold 5 (by decide)) rfl
 have t6:vs4 6= .pointer (some ⟨b,39,none⟩):=told_is _ (htold 6 (by decide)) rfl
 have t7:vs4 7= .int .i64 r.op:=told_is _ (htold 7 (by decide)) rfl
 have t8:vs4 8= .int .i64 r.hn:=told_is _ (htold 8 (by decide)) rfl
 have t9:vs4 9=aggV (Od.C ⟨2,r.find.su,r.op,0,r.hn,0⟩):=told_is _ (htold 9 (by decide)) rfl
 rw [show (List.range 12).map vs4= [vs4 0,vs4 1,vs4 2,vs4 3,vs4 4,vs4 5,vs4 6,vs4 7,vs4 8,vs4 9,vs4 10,vs4 11] from rfl]
 simp only [t0,t1,t2,t3,t4,t5,t6,t7,t8,t9,putAll,Act.put,List.setIfInBounds_toArray,List.set_cons_succ,List.set_cons_zero]
 clear t0 t1 t2 t3 t4 t5 t6 t7 t8 t9 htold
 obtain⟨_,h2,h3⟩:=hJ
 obtain⟨g,eg,hg,hM⟩:=h2 (hl 10 (by decide))
 have e6:=h3 (hl 11 (by decide))
 rw [eg] at e6
 rw [e6,eg]
 have HM:=hide hM
 have HG:=hide hg
 clear h2 h3 hM hg e6 eg hl
 go_wp2_with fail
 go_ret
 exact RR.rc (r:=(r.find.wt1 2,[⟨2,r.find.su,r.op,0,r.hn,0⟩])) ⟨_,rfl,Ou.made ((unhide HM).at 1 _ rfl) (unhide HG),(unhide HM).at 0 _ rfl,(unhide HM).kept⟩ (unhide HB0) (unhide HW)
theorem gnTo_step (r:Rk) (j:Nat) (v:Bool) (h:r.og j=v):({ r.gnTo j with gn:=upd (r.gnTo j).gn j v } :Rk)=r.gnTo (j+1):=by
 unfold Rk.gnTo
 simp only [Rk.mk.injEq,true_and,and_true]
 funext i
 simp only [upd]
 by_cases e:i=j
 · subst e;simp [h]
 · simp only [if_neg e]
   by_cases h1:i<j
   · rw [if_pos h1,if_pos (by omega)]
   · rw [if_neg h1,if_neg (by omega)]
theorem Mm.grown {w W W':World} {b T:Nat} {vs:List Value} {X:List Nat} (h:Mm [b] w W [(b,T,vs)]) (hk:Kept X W W') (hb:b<w.heap.size) (hX:∀k∈X,w.heap.size≤k):Mm [b] w W' [(b,T,vs)]:=by
 refine⟨h.kept.fresh hk (fun i hi hl=>by have:=hX i hi;omega),fun x hx=> ?_,h.own,h.nd⟩
 simp at hx;subst hx
 exact(h.at 0 _ rfl).kept hk (fun hi=>by have:=hX _ hi;simp at this;omega)
theorem o_stMB {o:Oper} {a:Act} {w w0:World} {K:Act→World→Prop} {Q:Exit→Act→World→Prop} {X:List Nat} {bs:List (Nat×Nat×List Value)} {T:Nat} (hs:(Try.prog.info? T).map (·.size)=some 1) (x y:Operand) (ho:o.op= .store T x y) (hd:o.dst=none) (b off i:Nat) (v:Value) (h1:One v) (hx:a.eval x= .pointer (some ⟨b,off,none⟩)) (hy:a.eval y=v) (hM:Mm X w0 w bs) {TT:Nat} {us us':List Value} (hi:bs[i]?=some (b,TT,us)) (hl:off<us.length) (he:us.set off v=us')
   (h:∀W,Mm X w0 W (bs.set i (b,TT,us'))→Kept [b] w W→K a W):o.wp Try.prog a w K Q:=
 o_stB hs x y ho hd b off v h1 hx hy (hM.at i _ hi) hl he (fun W h1 h2=>h W (hM.mut i hi h2 h1) h2)
theorem rbeg_2b (L:List Wi) (r:Rk) (ln:Value) (b:Nat) (w:World) (h:Blk w b 80 (r.C ln)) (hW:Ws w ln L) (hr:r.Ok) (hk:r.hk=2) (hx:¬r.x=(r.hn:Int)) (hd0:r.find.dropTo 8= []):Calls Try.prog 64 #[P0 b] w (RC b ln w ((r.find.gnTo 8).on.1,L,(r.find.gnTo 8).on.2)):=by
 have M:=hide (Mm.one h)
 have HB0:=hide h
 have HW:=hide hW
 have HR:=hide hr
 have hh:=hr.hn
 have hhI:(r.hn:Int)<8:=by omega
 have c27:=fits_cell h 27 _ rfl
 have c28:=fits_cell h 28 _ rfl
 have c0:=fits_cell h 0 _ rfl
 rw [hk] at c28
 clear hk
 have hxa:decide (r.x=(r.hn:Int))=false:=nef_a hx
 have hxb:(r.x == (r.hn:Int))=false:=nef_b hx
 have hxc:(r.x !=(r.hn:Int))=true:=nef_c hx
 have HD0:=hide hd0
 clear h hW hr hd0
 go_enter Try.func64,Try.ntmps64
 go_wp2_with (first |(go_at_call 90;refine(supply71 r ln b _ ((unhide M).at 0 _ rfl) (unhide HR)).mono ?_;rintro e W1 ⟨rfl,B1,K1⟩;replace M:Hid (Mm [b] w W1 [(b,80,r.find.C ln)]):=hide ((unhide M).mut 0 rfl K1 B1);clear B1 K1;clear c27 c28 c0;refine Stp.go ?_))
 constructor
 go_wp2_with fail
 go_loopw [4,5] (fun u i wr=>∃(j:Nat) (xo:Value),j≤8∧i= .int .i64 j∧xo=u∧Hid (Mm [b] w wr [(b,80,(r.find.gnTo j).C ln)])∧Hid (Ou w wr xo (r.find.dropTo j))) (fun _ i _=>8-(intOf i).toNat)
 case atStart=>exact ⟨0,_,by omega,rfl,rfl,M,New.nil _ _ _ _⟩
 case round=>
   clear M
   obtain⟨j,xo,hj,rfl,rfl,M,HO⟩:=hrel
   by_cases hlt:j<8
   · have hjI:(j:Int)<8:=by omega
     have hd:decide ((j:Int)<8)=true:=by simpa using hjI
     cases hsj:r.find.sh j with
     | false=>
       go_wp2_with fail
       refine wp_region_any mixed (wpAny_tq1 24 rfl (by kernel_rfl) [some (P0 b),some (.int .i64 j),some (P0 b),some (.int .i64 j),some (P0 b),some (.pointer (some ⟨b,2,none⟩)),some (.pointer (some ⟨b,2+j,none⟩)),some (.bool false),some (.bool false),none,none,none,some (.bool false),some (.bool false),none,none,none,none,none,none,some (.bool false),some (P0 b),some (.pointer (some ⟨b,30,none⟩)),some (.pointer (some ⟨b,30+j,none⟩)),some (undef)] rfl (by kernel_rfl) (by kernel_rfl) ?_ ?_)
       · intro i o' hi hsk ho a' w2 hout hin hk2
         replace hk2:Kept [] wr w2:=ud hk2
         match i,ho,hsk with
         | 0,ho,hsk=>
           cases ho
           exact wp_move (.tmp 0) rfl _ ((ho9 hout 0).trans rfl) (tE rfl)
         | 1,ho,hsk=>
           cases ho
           exact wp_move (.tmp 5) rfl _ ((ho9 hout 5).trans rfl) (tE rfl)
         | 2,ho,hsk=>
           cases ho
           exact wp_move (.tmp 0) rfl _ ((ho9 hout 0).trans rfl) (tE rfl)
         | 3,ho,hsk=>
           cases ho
           exact wp_move (.tmp 5) rfl _ ((ho9 hout 5).trans rfl) (tE rfl)
         | 4,ho,hsk=>
           cases ho
           exact o_nil (.tmp 80) rfl _ (is_tq (hi9 hin 2 80) rfl) (tE rfl)
         | 5,ho,hsk=>
           cases ho
           exact o_fld47_2 (.tmp 82) rfl b (0) (2) rfl (is_tq (hi9 hin 4 82) rfl) (tE rfl)
         | 6,ho,hsk=>
           cases ho
           exact o_idx45 (.tmp 83) (.tmp 81) rfl b (2) j (2+j) (hlt) rfl (is_tq (hi9 hin 5 83) rfl) (is_tq (hi9 hin 3 81) rfl) (tE rfl)
         | 7,ho,hsk=>
           cases ho
           exact o_load4 (.tmp 84) rfl _ _ (is_tq (hi9 hin 6 84) rfl) (by have h9:=Blk.rsh (((unhide M).step hk2).at 0 _ rfl) (hlt);rw [show (r.find.gnTo j).sh j=_ from hsj] at h9;exact h9) (tE rfl)
         | 8,ho,hsk=>
           cases ho
           exact wp_move (.tmp 85) rfl _ (is_tq (hi9 hin 7 85) rfl) (tE rfl)
         | 9,ho,hsk=>
           cases hsk
         | 10,ho,hsk=>
           cases hsk
         | 11,ho,hsk=>
           cases hsk
         | 12,ho,hsk=>
           cases ho
           exact o_pickN (.tmp 86) (.tmp 89) rfl (is_tq (hi9 hin 8 86) rfl) (tE rfl)
         | 13,ho,hsk=>
           cases ho
           exact wp_move (.tmp 90) rfl _ (is_tq (hi9 hin 12 90) rfl) (tE rfl)
         | 14,ho,hsk=>
           cases hsk
         | 15,ho,hsk=>
           cases hsk
         | 16,ho,hsk=>
           cases hsk
         | 17,ho,hsk=>
           cases hsk
         | 18,ho,hsk=>
           cases hsk
         | 19,ho,hsk=>
           cases hsk
         | 20,ho,hsk=>
           cases ho
           exact o_pickN (.tmp 91) (.tmp 97) rfl (is_tq (hi9 hin 13 91) rfl) (tE rfl)
         | 21,ho,hsk=>
           cases ho
           exact o_nil (.tmp 78) rfl _ (is_tq (hi9 hin 0 78) rfl) (tE rfl)
         | 22,ho,hsk=>
           cases ho
           exact o_fld47_8 (.tmp 99) rfl b (0) (30) rfl (is_tq (hi9 hin 21 99) rfl) (tE rfl)
         | 23,ho,hsk=>
           cases ho
           exact o_idx45 (.tmp 100) (.tmp 79) rfl b (30) j (30+j) (hlt) rfl (is_tq (hi9 hin 22 100) rfl) (is_tq (hi9 hin 1 79) rfl) (tE rfl)
         | 24,ho,hsk=>
           cases ho
           exact absurd hi (by decide)
       intro w9 hk9
       replace hk9:Kept [] wr w9:=ud hk9
       simp only [valsQ,List.map_cons,List.map_nil,Option.getD_some,Option.getD_none,List.take_succ_cons,List.take_zero,putAll,Act.put,List.setIfInBounds_toArray,List.set_cons_succ,List.set_cons_zero]
       replace M:=hide ((unhide M).step hk9)
       refine wpAny_all (rs:= [24]) (by kernel_rfl) (by simp) ?_
       intro i hi
       obtain rfl:i=24:=by simpa using hi
       refine wpOp_of rfl rfl (o_stMB size4 (.tmp 101) (.tmp 98) rfl rfl b (30+j) 0 (.bool false) ⟨rfl,rfl⟩ rfl rfl (unhide M) rfl (by show 30+j<40;omega) (Rk.gn_set (r.find.gnTo j) ln j hlt false) (fun W hM KS=> ?_))
       refine wpAny_done (by kernel_rfl) ?_ _
       rw [show ({ (r.find.gnTo j) with gn:=upd (r.find.gnTo j).gn j false } :Rk)=r.find.gnTo (j+1) from gnTo_step r.find j false (by simp [Rk.og,show r.find.sh j=false from hsj])] at hM
       replace M:Hid (Mm [b] w W [(b,80,(r.find.gnTo (j+1)).C ln)]):=hide hM
       replace HO:Hid (Ou w W xo (r.find.dropTo j)):=((unhide HO).kept hk9 (by simp)).kept KS (fun k hk=>by have:=(unhide HB0).lt;simp;omega)
       clear hM hk9 KS
       have cg:W.cell? ⟨b,30+j,none⟩=some (.bool false):=by have h9:=Blk.rgn ((unhide M).at 0 _ rfl) hlt;rw [show (r.find.gnTo (j+1)).gn j=false by simp [Rk.gnTo,Rk.og,show r.find.sh j=false from hsj]] at h9;exact h9
       have HD:Hid (r.find.dropTo (j+1)=r.find.dropTo j):=by show _=_;rw [Rk.dropTo];simp [Rk.og,show r.find.sh j=false from hsj]
       clear hsj
       go_wp2_with fail
       go_roundw
       case rel=>exact ⟨j+1,_,by omega,by go_num,rfl,M,by rw [unhide HD];exact HO⟩
       case measure=>simp [intOf];omega
     | true=>
     by_cases hjn:(j:Int)=(r.hn:Int)
     · go_wp2_with fail
       refine wp_region_any mixed (wpAny_tq1 24 rfl (by kernel_rfl) [some (P0 b),some (.int .i64 j),some (P0 b),some (.int .i64 j),some (P0 b),some (.pointer (some ⟨b,2,none⟩)),some (.pointer (some ⟨b,2+j,none⟩)),some (.bool true),some (.bool true),some (.int .i64 j),some (.int .i64 r.hn),some (.bool false),some (.bool false),some (.bool false),none,none,none,none,none,none,some (.bool false),some (P0 b),some (.pointer (some ⟨b,30,none⟩)),some (.pointer (some ⟨b,30+j,none⟩)),some (undef)] rfl (by kernel_rfl) (by kernel_rfl) ?_ ?_)
       · intro i o' hi hsk ho a' w2 hout hin hk2
         replace hk2:Kept [] wr w2:=ud hk2
         match i,ho,hsk with
         | 0,ho,hsk=>
           cases ho
           exact wp_move (.tmp 0) rfl _ ((ho9 hout 0).trans rfl) (tE rfl)
         | 1,ho,hsk=>
           cases ho
           exact wp_move (.tmp 5) rfl _ ((ho9 hout 5).trans rfl) (tE rfl)
         | 2,ho,hsk=>
           cases ho
           exact wp_move (.tmp 0) rfl _ ((ho9 hout 0).trans rfl) (tE rfl)
         | 3,ho,hsk=>
           cases ho
           exact wp_move (.tmp 5) rfl _ ((ho9 hout 5).trans rfl) (tE rfl)
         | 4,ho,hsk=>
           cases ho
           exact o_nil (.tmp 80) rfl _ (is_tq (hi9 hin 2 80) rfl) (tE rfl)
         | 5,ho,hsk=>
           cases ho
           exact o_fld47_2 (.tmp 82) rfl b (0) (2) rfl (is_tq (hi9 hin 4 82) rfl) (tE rfl)
         | 6,ho,hsk=>
           cases ho
           exact o_idx45 (.tmp 83) (.tmp 81) rfl b (2) j (2+j) (hlt) rfl (is_tq (hi9 hin 5 83) rfl) (is_tq (hi9 hin 3 81) rfl) (tE rfl)
         | 7,ho,hsk=>
           cases ho
           exact o_load4 (.tmp 84) rfl _ _ (is_tq (hi9 hin 6 84) rfl) (by have h9:=Blk.rsh (((unhide M).step hk2).at 0 _ rfl) (hlt);rw [show (r.find.gnTo j).sh j=_ from hsj] at h9;exact h9) (tE rfl)
         | 8,ho,hsk=>
           cases ho
           exact wp_move (.tmp 85) rfl _ (is_tq (hi9 hin 7 85) rfl) (tE rfl)
         | 9,ho,hsk=>
           cases ho
           exact wp_move (.tmp 5) rfl _ ((ho9 hout 5).trans rfl) (tE rfl)
         | 10,ho,hsk=>
           cases ho
           exact wp_move (.tmp 3) rfl _ ((ho9 hout 3).trans rfl) (tE rfl)
         | 11,ho,hsk=>
           cases ho
           exact c_neq3 (.tmp 87) (.tmp 88) rfl _ _ (true) (by rw [hjn];simp) (is_tq (hi9 hin 9 87) rfl) (is_tq (hi9 hin 10 88) rfl) (tE rfl)
         | 12,ho,hsk=>
           cases ho
           exact o_pick (.tmp 86) (.tmp 89) rfl _ (is_tq (hi9 hin 8 86) rfl) (is_tq (hi9 hin 11 89) rfl) (tE rfl)
         | 13,ho,hsk=>
           cases ho
           exact wp_move (.tmp 90) rfl _ (is_tq (hi9 hin 12 90) rfl) (tE rfl)
         | 14,ho,hsk=>
           cases hsk
         | 15,ho,hsk=>
           cases hsk
         | 16,ho,hsk=>
           cases hsk
         | 17,ho,hsk=>
           cases hsk
         | 18,ho,hsk=>
           cases hsk
         | 19,ho,hsk=>
           cases hsk
         | 20,ho,hsk=>
           cases ho
           exact o_pickN (.tmp 91) (.tmp 97) rfl (is_tq (hi9 hin 13 91) rfl) (tE rfl)
         | 21,ho,hsk=>
           cases ho
           exact o_nil (.tmp 78) rfl _ (is_tq (hi9 hin 0 78) rfl) (tE rfl)
         | 22,ho,hsk=>
           cases ho
           exact o_fld47_8 (.tmp 99) rfl b (0) (30) rfl (is_tq (hi9 hin 21 99) rfl) (tE rfl)
         | 23,ho,hsk=>
           cases ho
           exact o_idx45 (.tmp 100) (.tmp 79) rfl b (30) j (30+j) (hlt) rfl (is_tq (hi9 hin 22 100) rfl) (is_tq (hi9 hin 1 79) rfl) (tE rfl)
         | 24,ho,hsk=>
           cases ho
           exact absurd hi (by decide)
       intro w9 hk9
       replace hk9:Kept [] wr w9:=ud hk9
       simp only [valsQ,List.map_cons,List.map_nil,Option.getD_some,Option.getD_none,List.take_succ_cons,List.take_zero,putAll,Act.put,List.setIfInBounds_toArray,List.set_cons_succ,List.set_cons_zero]
       replace M:=hide ((unhide M).step hk9)
       refine wpAny_all (rs:= [24]) (by kernel_rfl) (by simp) ?_
       intro i hi
       obtain rfl:i=24:=by simpa using hi
       refine wpOp_of rfl rfl (o_stMB size4 (.tmp 101) (.tmp 98) rfl rfl b (30+j) 0 (.bool false) ⟨rfl,rfl⟩ rfl rfl (unhide M) rfl (by show 30+j<40;omega) (Rk.gn_set (r.find.gnTo j) ln j hlt false) (fun W hM KS=> ?_))
       refine wpAny_done (by kernel_rfl) ?_ _
       rw [show ({ (r.find.gnTo j) with gn:=upd (r.find.gnTo j).gn j false } :Rk)=r.find.gnTo (j+1) from gnTo_step r.find j false (by simp [Rk.og,show(j:Int)=(r.find.hn:Int) from hjn])] at hM
       replace M:Hid (Mm [b] w W [(b,80,(r.find.gnTo (j+1)).C ln)]):=hide hM
       replace HO:Hid (Ou w W xo (r.find.dropTo j)):=((unhide HO).kept hk9 (by simp)).kept KS (fun k hk=>by have:=(unhide HB0).lt;simp;omega)
       clear hM hk9 KS
       have cg:W.cell? ⟨b,30+j,none⟩=some (.bool false):=by have h9:=Blk.rgn ((unhide M).at 0 _ rfl) hlt;rw [show (r.find.gnTo (j+1)).gn j=false by simp [Rk.gnTo,Rk.og,show(j:Int)=(r.find.hn:Int) from hjn]] at h9;exact h9
       have HD:Hid (r.find.dropTo (j+1)=r.find.dropTo j):=by show _=_;rw [Rk.dropTo];simp [Rk.og,show(j:Int)=(r.find.hn:Int) from hjn]
       clear hsj hjn
       go_wp2_with fail
       go_roundw
       case rel=>exact ⟨j+1,_,by omega,by go_num,rfl,M,by rw [unhide HD];exact HO⟩
       case measure=>simp [intOf];omega
     cases hju:decide ((j:Int)=r.find.su) with
     | true=>
       replace hjn:decide ((j:Int)=(r.hn:Int))=false:=by simpa using hjn
       go_wp2_with fail
       refine wp_region_any mixed (wpAny_tq1 24 rfl (by kernel_rfl) [some (P0 b),some (.int .i64 j),some (P0 b),some (.int .i64 j),some (P0 b),some (.pointer (some ⟨b,2,none⟩)),some (.pointer (some ⟨b,2+j,none⟩)),some (.bool true),some (.bool true),some (.int .i64 j),some (.int .i64 r.hn),some (.bool true),some (.bool true),some (.bool true),some (.int .i64 j),some (P0 b),some (P0 b),some (.pointer (some ⟨b,38,none⟩)),some (.int .i64 ((r.find.gnTo j).su)),some (.bool false),some (.bool false),some (P0 b),some (.pointer (some ⟨b,30,none⟩)),some (.pointer (some ⟨b,30+j,none⟩)),some (undef)] rfl (by kernel_rfl) (by kernel_rfl) ?_ ?_)
       · intro i o' hi hsk ho a' w2 hout hin hk2
         replace hk2:Kept [] wr w2:=ud hk2
         match i,ho,hsk with
         | 0,ho,hsk=>
           cases ho
           exact wp_move (.tmp 0) rfl _ ((ho9 hout 0).trans rfl) (tE rfl)
         | 1,ho,hsk=>
           cases ho
           exact wp_move (.tmp 5) rfl _ ((ho9 hout 5).trans rfl) (tE rfl)
         | 2,ho,hsk=>
           cases ho
           exact wp_move (.tmp 0) rfl _ ((ho9 hout 0).trans rfl) (tE rfl)
         | 3,ho,hsk=>
           cases ho
           exact wp_move (.tmp 5) rfl _ ((ho9 hout 5).trans rfl) (tE rfl)
         | 4,ho,hsk=>
           cases ho
           exact o_nil (.tmp 80) rfl _ (is_tq (hi9 hin 2 80) rfl) (tE rfl)
         | 5,ho,hsk=>
           cases ho
           exact o_fld47_2 (.tmp 82) rfl b (0) (2) rfl (is_tq (hi9 hin 4 82) rfl) (tE rfl)
         | 6,ho,hsk=>
           cases ho
           exact o_idx45 (.tmp 83) (.tmp 81) rfl b (2) j (2+j) (hlt) rfl (is_tq (hi9 hin 5 83) rfl) (is_tq (hi9 hin 3 81) rfl) (tE rfl)
         | 7,ho,hsk=>
           cases ho
           exact o_load4 (.tmp 84) rfl _ _ (is_tq (hi9 hin 6 84) rfl) (by have h9:=Blk.rsh (((unhide M).step hk2).at 0 _ rfl) (hlt);rw [show (r.find.gnTo j).sh j=_ from hsj] at h9;exact h9) (tE rfl)
         | 8,ho,hsk=>
           cases ho
           exact wp_move (.tmp 85) rfl _ (is_tq (hi9 hin 7 85) rfl) (tE rfl)
         | 9,ho,hsk=>
           cases ho
           exact wp_move (.tmp 5) rfl _ ((ho9 hout 5).trans rfl) (tE rfl)
         | 10,ho,hsk=>
           cases ho
           exact wp_move (.tmp 3) rfl _ ((ho9 hout 3).trans rfl) (tE rfl)
         | 11,ho,hsk=>
           cases ho
           exact c_neq3 (.tmp 87) (.tmp 88) rfl _ _ (false) (hjn) (is_tq (hi9 hin 9 87) rfl) (is_tq (hi9 hin 10 88) rfl) (tE rfl)
         | 12,ho,hsk=>
           cases ho
           exact o_pick (.tmp 86) (.tmp 89) rfl _ (is_tq (hi9 hin 8 86) rfl) (is_tq (hi9 hin 11 89) rfl) (tE rfl)
         | 13,ho,hsk=>
           cases ho
           exact wp_move (.tmp 90) rfl _ (is_tq (hi9 hin 12 90) rfl) (tE rfl)
         | 14,ho,hsk=>
           cases ho
           exact wp_move (.tmp 5) rfl _ ((ho9 hout 5).trans rfl) (tE rfl)
         | 15,ho,hsk=>
           cases ho
           exact wp_move (.tmp 0) rfl _ ((ho9 hout 0).trans rfl) (tE rfl)
         | 16,ho,hsk=>
           cases ho
           exact o_nil (.tmp 93) rfl _ (is_tq (hi9 hin 15 93) rfl) (tE rfl)
         | 17,ho,hsk=>
           cases ho
           exact o_fld47_9 (.tmp 94) rfl b (0) (38) rfl (is_tq (hi9 hin 16 94) rfl) (tE rfl)
         | 18,ho,hsk=>
           cases ho
           exact o_load3 (.tmp 95) rfl _ _ (is_tq (hi9 hin 17 95) rfl) (fits_cell (((unhide M).step hk2).at 0 _ rfl) 38 _ rfl) (tE rfl)
         | 19,ho,hsk=>
           cases ho
           exact c_neq3 (.tmp 92) (.tmp 96) rfl _ _ (true) (hju) (is_tq (hi9 hin 14 92) rfl) (is_tq (hi9 hin 18 96) rfl) (tE rfl)
         | 20,ho,hsk=>
           cases ho
           exact o_pick (.tmp 91) (.tmp 97) rfl _ (is_tq (hi9 hin 13 91) rfl) (is_tq (hi9 hin 19 97) rfl) (tE rfl)
         | 21,ho,hsk=>
           cases ho
           exact o_nil (.tmp 78) rfl _ (is_tq (hi9 hin 0 78) rfl) (tE rfl)
         | 22,ho,hsk=>
           cases ho
           exact o_fld47_8 (.tmp 99) rfl b (0) (30) rfl (is_tq (hi9 hin 21 99) rfl) (tE rfl)
         | 23,ho,hsk=>
           cases ho
           exact o_idx45 (.tmp 100) (.tmp 79) rfl b (30) j (30+j) (hlt) rfl (is_tq (hi9 hin 22 100) rfl) (is_tq (hi9 hin 1 79) rfl) (tE rfl)
         | 24,ho,hsk=>
           cases ho
           exact absurd hi (by decide)
       intro w9 hk9
       replace hk9:Kept [] wr w9:=ud hk9
       simp only [valsQ,List.map_cons,List.map_nil,Option.getD_some,Option.getD_none,List.take_succ_cons,List.take_zero,putAll,Act.put,List.setIfInBounds_toArray,List.set_cons_succ,List.set_cons_zero]
       replace M:=hide ((unhide M).step hk9)
       refine wpAny_all (rs:= [24]) (by kernel_rfl) (by simp) ?_
       intro i hi
       obtain rfl:i=24:=by simpa using hi
       refine wpOp_of rfl rfl (o_stMB size4 (.tmp 101) (.tmp 98) rfl rfl b (30+j) 0 (.bool false) ⟨rfl,rfl⟩ rfl rfl (unhide M) rfl (by show 30+j<40;omega) (Rk.gn_set (r.find.gnTo j) ln j hlt false) (fun W hM KS=> ?_))
       refine wpAny_done (by kernel_rfl) ?_ _
       rw [show ({ (r.find.gnTo j) with gn:=upd (r.find.gnTo j).gn j false } :Rk)=r.find.gnTo (j+1) from gnTo_step r.find j false (by simp [Rk.og,show(j:Int)=r.find.su from of_decide_eq_true hju])] at hM
       replace M:Hid (Mm [b] w W [(b,80,(r.find.gnTo (j+1)).C ln)]):=hide hM
       replace HO:Hid (Ou w W xo (r.find.dropTo j)):=((unhide HO).kept hk9 (by simp)).kept KS (fun k hk=>by have:=(unhide HB0).lt;simp;omega)
       clear hM hk9 KS
       have cg:W.cell? ⟨b,30+j,none⟩=some (.bool false):=by have h9:=Blk.rgn ((unhide M).at 0 _ rfl) hlt;rw [show (r.find.gnTo (j+1)).gn j=false by simp [Rk.gnTo,Rk.og,show(j:Int)=r.find.su from of_decide_eq_true hju]] at h9;exact h9
       have HD:Hid (r.find.dropTo (j+1)=r.find.dropTo j):=by show _=_;rw [Rk.dropTo];simp [Rk.og,show(j:Int)=r.find.su from of_decide_eq_true hju]
       clear hsj hjn hju
       go_wp2_with fail
       go_roundw
       case rel=>exact ⟨j+1,_,by omega,by go_num,rfl,M,by rw [unhide HD];exact HO⟩
       case measure=>simp [intOf];omega
     | false=>
       replace hjn:decide ((j:Int)=(r.hn:Int))=false:=by simpa using hjn
       go_wp2_with fail
       refine wp_region_any mixed (wpAny_tq1 24 rfl (by kernel_rfl) [some (P0 b),some (.int .i64 j),some (P0 b),some (.int .i64 j),some (P0 b),some (.pointer (some ⟨b,2,none⟩)),some (.pointer (some ⟨b,2+j,none⟩)),some (.bool true),some (.bool true),some (.int .i64 j),some (.int .i64 r.hn),some (.bool true),some (.bool true),some (.bool true),some (.int .i64 j),some (P0 b),some (P0 b),some (.pointer (some ⟨b,38,none⟩)),some (.int .i64 ((r.find.gnTo j).su)),some (.bool true),some (.bool true),some (P0 b),some (.pointer (some ⟨b,30,none⟩)),some (.pointer (some ⟨b,30+j,none⟩)),some (undef)] rfl (by kernel_rfl) (by kernel_rfl) ?_ ?_)
       · intro i o' hi hsk ho a' w2 hout hin hk2
         replace hk2:Kept [] wr w2:=ud hk2
         match i,ho,hsk with
         | 0,ho,hsk=>
           cases ho
           exact wp_move (.tmp 0) rfl _ ((ho9 hout 0).trans rfl) (tE rfl)
         | 1,ho,hsk=>
           cases ho
           exact wp_move (.tmp 5) rfl _ ((ho9 hout 5).trans rfl) (tE rfl)
         | 2,ho,hsk=>
           cases ho
           exact wp_move (.tmp 0) rfl _ ((ho9 hout 0).trans rfl) (tE rfl)
         | 3,ho,hsk=>
           cases ho
           exact wp_move (.tmp 5) rfl _ ((ho9 hout 5).trans rfl) (tE rfl)
         | 4,ho,hsk=>
           cases ho
           exact o_nil (.tmp 80) rfl _ (is_tq (hi9 hin 2 80) rfl) (tE rfl)
         | 5,ho,hsk=>
           cases ho
           exact o_fld47_2 (.tmp 82) rfl b (0) (2) rfl (is_tq (hi9 hin 4 82) rfl) (tE rfl)
         | 6,ho,hsk=>
           cases ho
           exact o_idx45 (.tmp 83) (.tmp 81) rfl b (2) j (2+j) (hlt) rfl (is_tq (hi9 hin 5 83) rfl) (is_tq (hi9 hin 3 81) rfl) (tE rfl)
         | 7,ho,hsk=>
           cases ho
           exact o_load4 (.tmp 84) rfl _ _ (is_tq (hi9 hin 6 84) rfl) (by have h9:=Blk.rsh (((unhide M).step hk2).at 0 _ rfl) (hlt);rw [show (r.find.gnTo j).sh j=_ from hsj] at h9;exact h9) (tE rfl)
         | 8,ho,hsk=>
           cases ho
           exact wp_move (.tmp 85) rfl _ (is_tq (hi9 hin 7 85) rfl) (tE rfl)
         | 9,ho,hsk=>
           cases ho
           exact wp_move (.tmp 5) rfl _ ((ho9 hout 5).trans rfl) (tE rfl)
         | 10,ho,hsk=>
           cases ho
           exact wp_move (.tmp 3) rfl _ ((ho9 hout 3).trans rfl) (tE rfl)
         | 11,ho,hsk=>
           cases ho
           exact c_neq3 (.tmp 87) (.tmp 88) rfl _ _ (false) (hjn) (is_tq (hi9 hin 9 87) rfl) (is_tq (hi9 hin 10 88) rfl) (tE rfl)
         | 12,ho,hsk=>
           cases ho
           exact o_pick (.tmp 86) (.tmp 89) rfl _ (is_tq (hi9 hin 8 86) rfl) (is_tq (hi9 hin 11 89) rfl) (tE rfl)
         | 13,ho,hsk=>
           cases ho
           exact wp_move (.tmp 90) rfl _ (is_tq (hi9 hin 12 90) rfl) (tE rfl)
         | 14,ho,hsk=>
           cases ho
           exact wp_move (.tmp 5) rfl _ ((ho9 hout 5).trans rfl) (tE rfl)
         | 15,ho,hsk=>
           cases ho
           exact wp_move (.tmp 0) rfl _ ((ho9 hout 0).trans rfl) (tE rfl)
         | 16,ho,hsk=>
           cases ho
           exact o_nil (.tmp 93) rfl _ (is_tq (hi9 hin 15 93) rfl) (tE rfl)
         | 17,ho,hsk=>
           cases ho
           exact o_fld47_9 (.tmp 94) rfl b (0) (38) rfl (is_tq (hi9 hin 16 94) rfl) (tE rfl)
         | 18,ho,hsk=>
           cases ho
           exact o_load3 (.tmp 95) rfl _ _ (is_tq (hi9 hin 17 95) rfl) (fits_cell (((unhide M).step hk2).at 0 _ rfl) 38 _ rfl) (tE rfl)
         | 19,ho,hsk=>
           cases ho
           exact c_neq3 (.tmp 92) (.tmp 96) rfl _ _ (false) (hju) (is_tq (hi9 hin 14 92) rfl) (is_tq (hi9 hin 18 96) rfl) (tE rfl)
         | 20,ho,hsk=>
           cases ho
           exact o_pick (.tmp 91) (.tmp 97) rfl _ (is_tq (hi9 hin 13 91) rfl) (is_tq (hi9 hin 19 97) rfl) (tE rfl)
         | 21,ho,hsk=>
           cases ho
           exact o_nil (.tmp 78) rfl _ (is_tq (hi9 hin 0 78) rfl) (tE rfl)
         | 22,ho,hsk=>
           cases ho
           exact o_fld47_8 (.tmp 99) rfl b (0) (30) rfl (is_tq (hi9 hin 21 99) rfl) (tE rfl)
         | 23,ho,hsk=>
           cases ho
           exact o_idx45 (.tmp 100) (.tmp 79) rfl b (30) j (30+j) (hlt) rfl (is_tq (hi9 hin 22 100) rfl) (is_tq (hi9 hin 1 79) rfl) (tE rfl)
         | 24,ho,hsk=>
           cases ho
           exact absurd hi (by decide)
       intro w9 hk9
       replace hk9:Kept [] wr w9:=ud hk9
       simp only [valsQ,List.map_cons,List.map_nil,Option.getD_some,Option.getD_none,List.take_succ_cons,List.take_zero,putAll,Act.put,List.setIfInBounds_toArray,List.set_cons_succ,List.set_cons_zero]
       replace M:=hide ((unhide M).step hk9)
       refine wpAny_all (rs:= [24]) (by kernel_rfl) (by simp) ?_
       intro i hi
       obtain rfl:i=24:=by simpa using hi
       refine wpOp_of rfl rfl (o_stMB size4 (.tmp 101) (.tmp 98) rfl rfl b (30+j) 0 (.bool true) ⟨rfl,rfl⟩ rfl rfl (unhide M) rfl (by show 30+j<40;omega) (Rk.gn_set (r.find.gnTo j) ln j hlt true) (fun W hM KS=> ?_))
       refine wpAny_done (by kernel_rfl) ?_ _
       rw [show ({ (r.find.gnTo j) with gn:=upd (r.find.gnTo j).gn j true } :Rk)=r.find.gnTo (j+1) from gnTo_step r.find j true (by simp [Rk.og,show r.find.sh j=true from hsj,show ¬(j:Int)=(r.find.hn:Int) from of_decide_eq_false hjn,show ¬(j:Int)=r.find.su from of_decide_eq_false hju])] at hM
       replace M:Hid (Mm [b] w W [(b,80,(r.find.gnTo (j+1)).C ln)]):=hide hM
       replace HO:Hid (Ou w W xo (r.find.dropTo j)):=((unhide HO).kept hk9 (by simp)).kept KS (fun k hk=>by have:=(unhide HB0).lt;simp;omega)
       clear hM hk9 KS
       have cg:W.cell? ⟨b,30+j,none⟩=some (.bool true):=by have h9:=Blk.rgn ((unhide M).at 0 _ rfl) hlt;rw [show (r.find.gnTo (j+1)).gn j=true by simp [Rk.gnTo,Rk.og,show r.find.sh j=true from hsj,show ¬(j:Int)=(r.find.hn:Int) from of_decide_eq_false hjn,show ¬(j:Int)=r.find.su from of_decide_eq_false hju]] at h9;exact h9
       have HD:Hid (r.find.dropTo (j+1)=r.find.dropTo j++ [⟨4,j,r.op,0,0,0⟩]):=by show _=_;rw [Rk.dropTo];simp [Rk.og,show r.find.sh j=true from hsj,show ¬(j:Int)=(r.find.hn:Int) from of_decide_eq_false hjn,show ¬(j:Int)=r.find.su from of_decide_eq_false hju,show r.find.op=r.op from rfl]
       clear hsj hjn hju
       have c39:W.cell? ⟨b,39,none⟩=some (.int .i64 r.op):=fits_cell ((unhide M).at 0 _ rfl) 39 _ rfl
       go_wp2_with (first |(refine wpBuildP (by rfl) #[(0,.const (.int .i64 4)),(1,.tmp 109),(2,.tmp 113)] (by rfl) #[(0,.int .i64 4),(1,.int .i64 j),(2,.int .i64 r.op)] (by kernel_rfl) (Od.C ⟨4,j,r.op,0,0,0⟩) (boc _ 4 j r.op) ?_;refine Stp.go ?_))
       constructor
       go_wp2_with (first |(refine wpBs28 rfl (.tmp 114) rfl ⟨4,j,r.op,0,0,0⟩ rfl ?_;intro W2 g2 e2 B2 K2;have HB2:=hide B2;replace M:=hide ((unhide M).step K2);replace HO:Hid (Ou w W2 xo (r.find.dropTo j)):=(unhide HO).kept K2 (by simp);clear e2 B2 K2 c39 cg;refine Stp.go ?_))
       constructor
       go_wp2_with (first |(refine wpAppN el28 rfl (.tmp 108) (.tmp 115) rfl xo _ _ rfl (unhide HO) _ 1 (Od.C ⟨4,j,r.op,0,0,0⟩) rfl (Rw.made (unhide HB2) rfl (max1000 (by omega))) (Od.one _) (by have:=dropTo_len r.find j;omega) (max1000 (by have:=dropTo_len r.find j;omega)) (unhide M).kept.size ?_;intro v3 W3 N3 K3;have HO3:Hid (Ou w W3 v3 (r.find.dropTo (j+1))):=(by rw [unhide HD];exact New.app (m:= [⟨4,j,r.op,0,0,0⟩]) N3);replace M:Hid (Mm [b] w W3 [(b,80,(r.find.gnTo (j+1)).C ln)]):=hide ((unhide M).grown K3 (unhide HB0).lt (unhide HO).spare);clear N3 K3;refine Stp.go ?_))
       constructor
       go_wp2_with fail
       go_roundw
       case rel=>exact ⟨j+1,_,by omega,by go_num,rfl,M,HO3⟩
       case measure=>simp [intOf];omega
   · have hd:decide ((j:Int)<8)=false:=by simp;omega
     have HJ:Hid (j=8):=by show _=_;omega
     have hO8:=unhide HO
     have hM8:=unhide M
     rw [unhide HJ] at hO8 hM8
     have HO8:=hide hO8
     replace M:=hide hM8
     clear hO8 hM8 HO
     have HL8:Hid (Os wr xo []):=by have h9:=(unhide HO8).row;rw [unhide HD0] at h9;exact h9
     obtain⟨ao,cc,hxo,_,_⟩:=(unhide HL8).sl
     subst hxo
     show Code.wp _ _ _ _ _
     go_wp2_with (first |(go_at_call 91;refine(on72 (r.find.gnTo 8) ln b _ ((unhide M).at 0 _ rfl)).mono ?_;rintro e W31 ⟨xv,rfl,N31,B31,K31⟩;have HO:Hid _:=hide (N31.elder (w:=w) (unhide M).kept.size);replace M:Hid (Mm [b] w W31 [(b,80,(r.find.gnTo 8).on.1.C ln)]):=hide ((unhide M).mut 0 rfl K31 B31);clear N31 B31 K31;refine Stp.go ?_))
     constructor
     go_wp2_with fail
     go_ret
     exact RR.rc (r:=(r.find.gnTo 8).on) ⟨xv,rfl,unhide HO,(unhide M).at 0 _ rfl,(unhide M).kept⟩ (unhide HB0) (unhide HW)
theorem rbeg_2c (L:List Wi) (r:Rk) (ln:Value) (b:Nat) (w:World) (h:Blk w b 80 (r.C ln)) (hW:Ws w ln L) (hr:r.Ok) (hk:r.hk=2) (hx:¬r.x=(r.hn:Int)) (hd0:¬r.find.dropTo 8= []):Calls Try.prog 64 #[P0 b] w (RC b ln w ((r.find.gnTo 8).wt1 1,L,r.find.dropTo 8)):=by
 have M:=hide (Mm.one h)
 have HB0:=hide h
 have HW:=hide hW
 have HR:=hide hr
 have hh:=hr.hn
 have hhI:(r.hn:Int)<8:=by omega
 have c27:=fits_cell h 27 _ rfl
 have c28:=fits_cell h 28 _ rfl
 have c0:=fits_cell h 0 _ rfl
 rw [hk] at c28
 clear hk
 have hxa:decide (r.x=(r.hn:Int))=false:=nef_a hx
 have hxb:(r.x == (r.hn:Int))=false:=nef_b hx
 have hxc:(r.x !=(r.hn:Int))=true:=nef_c hx
 have HD0:=hide hd0
 clear h hW hr hd0
 go_enter Try.func64,Try.ntmps64
 go_wp2_with (first |(go_at_call 90;refine(supply71 r ln b _ ((unhide M).at 0 _ rfl) (unhide HR)).mono ?_;rintro e W1 ⟨rfl,B1,K1⟩;replace M:Hid (Mm [b] w W1 [(b,80,r.find.C ln)]):=hide ((unhide M).mut 0 rfl K1 B1);clear B1 K1;clear c27 c28 c0;refine Stp.go ?_))
 constructor
 go_wp2_with fail
 go_loopw [4,5] (fun u i wr=>∃(j:Nat) (xo:Value),j≤8∧i= .int .i64 j∧xo=u∧Hid (Mm [b] w wr [(b,80,(r.find.gnTo j).C ln)])∧Hid (Ou w wr xo (r.find.dropTo j))) (fun _ i _=>8-(intOf i).toNat)
 case atStart=>exact ⟨0,_,by omega,rfl,rfl,M,New.nil _ _ _ _⟩
 case round=>
   clear M
   obtain⟨j,xo,hj,rfl,rfl,M,HO⟩:=hrel
   by_cases hlt:j<8
   · have hjI:(j:Int)<8:=by omega
     have hd:decide ((j:Int)<8)=true:=by simpa using hjI
     cases hsj:r.find.sh j with
     | false=>
       go_wp2_with fail
       refine wp_region_any mixed (wpAny_tq1 24 rfl (by kernel_rfl) [some (P0 b),some (.int .i64 j),some (P0 b),some (.int .i64 j),some (P0 b),some (.pointer (some ⟨b,2,none⟩)),some (.pointer (some ⟨b,2+j,none⟩)),some (.bool false),some (.bool false),none,none,none,some (.bool false),some (.bool false),none,none,none,none,none,none,some (.bool false),some (P0 b),some (.pointer (some ⟨b,30,none⟩)),some (.pointer (some ⟨b,30+j,none⟩)),some (undef)] rfl (by kernel_rfl) (by kernel_rfl) ?_ ?_)
       · intro i o' hi hsk ho a' w2 hout hin hk2
         replace hk2:Kept [] wr w2:=ud hk2
         match i,ho,hsk with
         | 0,ho,hsk=>
           cases ho
           exact wp_move (.tmp 0) rfl _ ((ho9 hout 0).trans rfl) (tE rfl)
         | 1,ho,hsk=>
           cases ho
           exact wp_move (.tmp 5) rfl _ ((ho9 hout 5).trans rfl) (tE rfl)
         | 2,ho,hsk=>
           cases ho
           exact wp_move (.tmp 0) rfl _ ((ho9 hout 0).trans rfl) (tE rfl)
         | 3,ho,hsk=>
           cases ho
           exact wp_move (.tmp 5) rfl _ ((ho9 hout 5).trans rfl) (tE rfl)
         | 4,ho,hsk=>
           cases ho
           exact o_nil (.tmp 80) rfl _ (is_tq (hi9 hin 2 80) rfl) (tE rfl)
         | 5,ho,hsk=>
           cases ho
           exact o_fld47_2 (.tmp 82) rfl b (0) (2) rfl (is_tq (hi9 hin 4 82) rfl) (tE rfl)
         | 6,ho,hsk=>
           cases ho
           exact o_idx45 (.tmp 83) (.tmp 81) rfl b (2) j (2+j) (hlt) rfl (is_tq (hi9 hin 5 83) rfl) (is_tq (hi9 hin 3 81) rfl) (tE rfl)
         | 7,ho,hsk=>
           cases ho
           exact o_load4 (.tmp 84) rfl _ _ (is_tq (hi9 hin 6 84) rfl) (by have h9:=Blk.rsh (((unhide M).step hk2).at 0 _ rfl) (hlt);rw [show (r.find.gnTo j).sh j=_ from hsj] at h9;exact h9) (tE rfl)
         | 8,ho,hsk=>
           cases ho
           exact wp_move (.tmp 85) rfl _ (is_tq (hi9 hin 7 85) rfl) (tE rfl)
         | 9,ho,hsk=>
           cases hsk
         | 10,ho,hsk=>
           cases hsk
         | 11,ho,hsk=>
           cases hsk
         | 12,ho,hsk=>
           cases ho
           exact o_pickN (.tmp 86) (.tmp 89) rfl (is_tq (hi9 hin 8 86) rfl) (tE rfl)
         | 13,ho,hsk=>
           cases ho
           exact wp_move (.tmp 90) rfl _ (is_tq (hi9 hin 12 90) rfl) (tE rfl)
         | 14,ho,hsk=>
           cases hsk
         | 15,ho,hsk=>
           cases hsk
         | 16,ho,hsk=>
           cases hsk
         | 17,ho,hsk=>
           cases hsk
         | 18,ho,hsk=>
           cases hsk
         | 19,ho,hsk=>
           cases hsk
         | 20,ho,hsk=>
           cases ho
           exact o_pickN (.tmp 91) (.tmp 97) rfl (is_tq (hi9 hin 13 91) rfl) (tE rfl)
         | 21,ho,hsk=>
           cases ho
           exact o_nil (.tmp 78) rfl _ (is_tq (hi9 hin 0 78) rfl) (tE rfl)
         | 22,ho,hsk=>
           cases ho
           exact o_fld47_8 (.tmp 99) rfl b (0) (30) rfl (is_tq (hi9 hin 21 99) rfl) (tE rfl)
         | 23,ho,hsk=>
           cases ho
           exact o_idx45 (.tmp 100) (.tmp 79) rfl b (30) j (30+j) (hlt) rfl (is_tq (hi9 hin 22 100) rfl) (is_tq (hi9 hin 1 79) rfl) (tE rfl)
         | 24,ho,hsk=>
           cases ho
           exact absurd hi (by decide)
       intro w9 hk9
       replace hk9:Kept [] wr w9:=ud hk9
       simp only [valsQ,List.map_cons,List.map_nil,Option.getD_some,Option.getD_none,List.take_succ_cons,List.take_zero,putAll,Act.put,List.setIfInBounds_toArray,List.set_cons_succ,List.set_cons_zero]
       replace M:=hide ((unhide M).step hk9)
       refine wpAny_all (rs:= [24]) (by kernel_rfl) (by simp) ?_
       intro i hi
       obtain rfl:i=24:=by simpa using hi
       refine wpOp_of rfl rfl (o_stMB size4 (.tmp 101) (.tmp 98) rfl rfl b (30+j) 0 (.bool false) ⟨rfl,rfl⟩ rfl rfl (unhide M) rfl (by show 30+j<40;omega) (Rk.gn_set (r.find.gnTo j) ln j hlt false) (fun W hM KS=> ?_))
       refine wpAny_done (by kernel_rfl) ?_ _
       rw [show ({ (r.find.gnTo j) with gn:=upd (r.find.gnTo j).gn j false } :Rk)=r.find.gnTo (j+1) from gnTo_step r.find j false (by simp [Rk.og,show r.find.sh j=false from hsj])] at hM
       replace M:Hid (Mm [b] w W [(b,80,(r.find.gnTo (j+1)).C ln)]):=hide hM
       replace HO:Hid (Ou w W xo (r.find.dropTo j)):=((unhide HO).kept hk9 (by simp)).kept KS (fun k hk=>by have:=(unhide HB0).lt;simp;omega)
       clear hM hk9 KS
       have cg:W.cell? ⟨b,30+j,none⟩=some (.bool false):=by have h9:=Blk.rgn ((unhide M).at 0 _ rfl) hlt;rw [show (r.find.gnTo (j+1)).gn j=false by simp [Rk.gnTo,Rk.og,show r.find.sh j=false from hsj]] at h9;exact h9
       have HD:Hid (r.find.dropTo (j+1)=r.find.dropTo j):=by show _=_;rw [Rk.dropTo];simp [Rk.og,show r.find.sh j=false from hsj]
       clear hsj
       go_wp2_with fail
       go_roundw
       case rel=>exact ⟨j+1,_,by omega,by go_num,rfl,M,by rw [unhide HD];exact HO⟩
       case measure=>simp [intOf];omega
     | true=>
     by_cases hjn:(j:Int)=(r.hn:Int)
     · go_wp2_with fail
       refine wp_region_any mixed (wpAny_tq1 24 rfl (by kernel_rfl) [some (P0 b),some (.int .i64 j),some (P0 b),some (.int .i64 j),some (P0 b),some (.pointer (some ⟨b,2,none⟩)),some (.pointer (some ⟨b,2+j,none⟩)),some (.bool true),some (.bool true),some (.int .i64 j),some (.int .i64 r.hn),some (.bool false),some (.bool false),some (.bool false),none,none,none,none,none,none,some (.bool false),some (P0 b),some (.pointer (some ⟨b,30,none⟩)),some (.pointer (some ⟨b,30+j,none⟩)),some (undef)] rfl (by kernel_rfl) (by kernel_rfl) ?_ ?_)
       · intro i o' hi hsk ho a' w2 hout hin hk2
         replace hk2:Kept [] wr w2:=ud hk2
         match i,ho,hsk with
         | 0,ho,hsk=>
           cases ho
           exact wp_move (.tmp 0) rfl _ ((ho9 hout 0).trans rfl) (tE rfl)
         | 1,ho,hsk=>
           cases ho
           exact wp_move (.tmp 5) rfl _ ((ho9 hout 5).trans rfl) (tE rfl)
         | 2,ho,hsk=>
           cases ho
           exact wp_move (.tmp 0) rfl _ ((ho9 hout 0).trans rfl) (tE rfl)
         | 3,ho,hsk=>
           cases ho
           exact wp_move (.tmp 5) rfl _ ((ho9 hout 5).trans rfl) (tE rfl)
         | 4,ho,hsk=>
           cases ho
           exact o_nil (.tmp 80) rfl _ (is_tq (hi9 hin 2 80) rfl) (tE rfl)
         | 5,ho,hsk=>
           cases ho
           exact o_fld47_2 (.tmp 82) rfl b (0) (2) rfl (is_tq (hi9 hin 4 82) rfl) (tE rfl)
         | 6,ho,hsk=>
           cases ho
           exact o_idx45 (.tmp 83) (.tmp 81) rfl b (2) j (2+j) (hlt) rfl (is_tq (hi9 hin 5 83) rfl) (is_tq (hi9 hin 3 81) rfl) (tE rfl)
         | 7,ho,hsk=>
           cases ho
           exact o_load4 (.tmp 84) rfl _ _ (is_tq (hi9 hin 6 84) rfl) (by have h9:=Blk.rsh (((unhide M).step hk2).at 0 _ rfl) (hlt);rw [show (r.find.gnTo j).sh j=_ from hsj] at h9;exact h9) (tE rfl)
         | 8,ho,hsk=>
           cases ho
           exact wp_move (.tmp 85) rfl _ (is_tq (hi9 hin 7 85) rfl) (tE rfl)
         | 9,ho,hsk=>
           cases ho
           exact wp_move (.tmp 5) rfl _ ((ho9 hout 5).trans rfl) (tE rfl)
         | 10,ho,hsk=>
           cases ho
           exact wp_move (.tmp 3) rfl _ ((ho9 hout 3).trans rfl) (tE rfl)
         | 11,ho,hsk=>
           cases ho
           exact c_neq3 (.tmp 87) (.tmp 88) rfl _ _ (true) (by rw [hjn];simp) (is_tq (hi9 hin 9 87) rfl) (is_tq (hi9 hin 10 88) rfl) (tE rfl)
         | 12,ho,hsk=>
           cases ho
           exact o_pick (.tmp 86) (.tmp 89) rfl _ (is_tq (hi9 hin 8 86) rfl) (is_tq (hi9 hin 11 89) rfl) (tE rfl)
         | 13,ho,hsk=>
           cases ho
           exact wp_move (.tmp 90) rfl _ (is_tq (hi9 hin 12 90) rfl) (tE rfl)
         | 14,ho,hsk=>
           cases hsk
         | 15,ho,hsk=>
           cases hsk
         | 16,ho,hsk=>
           cases hsk
         | 17,ho,hsk=>
           cases hsk
         | 18,ho,hsk=>
           cases hsk
         | 19,ho,hsk=>
           cases hsk
         | 20,ho,hsk=>
           cases ho
           exact o_pickN (.tmp 91) (.tmp 97) rfl (is_tq (hi9 hin 13 91) rfl) (tE rfl)
         | 21,ho,hsk=>
           cases ho
           exact o_nil (.tmp 78) rfl _ (is_tq (hi9 hin 0 78) rfl) (tE rfl)
         | 22,ho,hsk=>
           cases ho
           exact o_fld47_8 (.tmp 99) rfl b (0) (30) rfl (is_tq (hi9 hin 21 99) rfl) (tE rfl)
         | 23,ho,hsk=>
           cases ho
           exact o_idx45 (.tmp 100) (.tmp 79) rfl b (30) j (30+j) (hlt) rfl (is_tq (hi9 hin 22 100) rfl) (is_tq (hi9 hin 1 79) rfl) (tE rfl)
         | 24,ho,hsk=>
           cases ho
           exact absurd hi (by decide)
       intro w9 hk9
       replace hk9:Kept [] wr w9:=ud hk9
       simp only [valsQ,List.map_cons,List.map_nil,Option.getD_some,Option.getD_none,List.take_succ_cons,List.take_zero,putAll,Act.put,List.setIfInBounds_toArray,List.set_cons_succ,List.set_cons_zero]
       replace M:=hide ((unhide M).step hk9)
       refine wpAny_all (rs:= [24]) (by kernel_rfl) (by simp) ?_
       intro i hi
       obtain rfl:i=24:=by simpa using hi
       refine wpOp_of rfl rfl (o_stMB size4 (.tmp 101) (.tmp 98) rfl rfl b (30+j) 0 (.bool false) ⟨rfl,rfl⟩ rfl rfl (unhide M) rfl (by show 30+j<40;omega) (Rk.gn_set (r.find.gnTo j) ln j hlt false) (fun W hM KS=> ?_))
       refine wpAny_done (by kernel_rfl) ?_ _
       rw [show ({ (r.find.gnTo j) with gn:=upd (r.find.gnTo j).gn j false } :Rk)=r.find.gnTo (j+1) from gnTo_step r.find j false (by simp [Rk.og,show(j:Int)=(r.find.hn:Int) from hjn])] at hM
       replace M:Hid (Mm [b] w W [(b,80,(r.find.gnTo (j+1)).C ln)]):=hide hM
       replace HO:Hid (Ou w W xo (r.find.dropTo j)):=((unhide HO).kept hk9 (by simp)).kept KS (fun k hk=>by have:=(unhide HB0).lt;simp;omega)
       clear hM hk9 KS
       have cg:W.cell? ⟨b,30+j,none⟩=some (.bool false):=by have h9:=Blk.rgn ((unhide M).at 0 _ rfl) hlt;rw [show (r.find.gnTo (j+1)).gn j=false by simp [Rk.gnTo,Rk.og,show(j:Int)=(r.find.hn:Int) from hjn]] at h9;exact h9
       have HD:Hid (r.find.dropTo (j+1)=r.find.dropTo j):=by show _=_;rw [Rk.dropTo];simp [Rk.og,show(j:Int)=(r.find.hn:Int) from hjn]
       clear hsj hjn
       go_wp2_with fail
       go_roundw
       case rel=>exact ⟨j+1,_,by omega,by go_num,rfl,M,by rw [unhide HD];exact HO⟩
       case measure=>simp [intOf];omega
     cases hju:decide ((j:Int)=r.find.su) with
     | true=>
       replace hjn:decide ((j:Int)=(r.hn:Int))=false:=by simpa using hjn
       go_wp2_with fail
       refine wp_region_any mixed (wpAny_tq1 24 rfl (by kernel_rfl) [some (P0 b),some (.int .i64 j),some (P0 b),some (.int .i64 j),some (P0 b),some (.pointer (some ⟨b,2,none⟩)),some (.pointer (some ⟨b,2+j,none⟩)),some (.bool true),some (.bool true),some (.int .i64 j),some (.int .i64 r.hn),some (.bool true),some (.bool true),some (.bool true),some (.int .i64 j),some (P0 b),some (P0 b),some (.pointer (some ⟨b,38,none⟩)),some (.int .i64 ((r.find.gnTo j).su)),some (.bool false),some (.bool false),some (P0 b),some (.pointer (some ⟨b,30,none⟩)),some (.pointer (some ⟨b,30+j,none⟩)),some (undef)] rfl (by kernel_rfl) (by kernel_rfl) ?_ ?_)
       · intro i o' hi hsk ho a' w2 hout hin hk2
         replace hk2:Kept [] wr w2:=ud hk2
         match i,ho,hsk with
         | 0,ho,hsk=>
           cases ho
           exact wp_move (.tmp 0) rfl _ ((ho9 hout 0).trans rfl) (tE rfl)
         | 1,ho,hsk=>
           cases ho
           exact wp_move (.tmp 5) rfl _ ((ho9 hout 5).trans rfl) (tE rfl)
         | 2,ho,hsk=>
           cases ho
           exact wp_move (.tmp 0) rfl _ ((ho9 hout 0).trans rfl) (tE rfl)
         | 3,ho,hsk=>
           cases ho
           exact wp_move (.tmp 5) rfl _ ((ho9 hout 5).trans rfl) (tE rfl)
         | 4,ho,hsk=>
           cases ho
           exact o_nil (.tmp 80) rfl _ (is_tq (hi9 hin 2 80) rfl) (tE rfl)
         | 5,ho,hsk=>
           cases ho
           exact o_fld47_2 (.tmp 82) rfl b (0) (2) rfl (is_tq (hi9 hin 4 82) rfl) (tE rfl)
         | 6,ho,hsk=>
           cases ho
           exact o_idx45 (.tmp 83) (.tmp 81) rfl b (2) j (2+j) (hlt) rfl (is_tq (hi9 hin 5 83) rfl) (is_tq (hi9 hin 3 81) rfl) (tE rfl)
         | 7,ho,hsk=>
           cases ho
           exact o_load4 (.tmp 84) rfl _ _ (is_tq (hi9 hin 6 84) rfl) (by have h9:=Blk.rsh (((unhide M).step hk2).at 0 _ rfl) (hlt);rw [show (r.find.gnTo j).sh j=_ from hsj] at h9;exact h9) (tE rfl)
         | 8,ho,hsk=>
           cases ho
           exact wp_move (.tmp 85) rfl _ (is_tq (hi9 hin 7 85) rfl) (tE rfl)
         | 9,ho,hsk=>
           cases ho
           exact wp_move (.tmp 5) rfl _ ((ho9 hout 5).trans rfl) (tE rfl)
         | 10,ho,hsk=>
           cases ho
           exact wp_move (.tmp 3) rfl _ ((ho9 hout 3).trans rfl) (tE rfl)
         | 11,ho,hsk=>
           cases ho
           exact c_neq3 (.tmp 87) (.tmp 88) rfl _ _ (false) (hjn) (is_tq (hi9 hin 9 87) rfl) (is_tq (hi9 hin 10 88) rfl) (tE rfl)
         | 12,ho,hsk=>
           cases ho
           exact o_pick (.tmp 86) (.tmp 89) rfl _ (is_tq (hi9 hin 8 86) rfl) (is_tq (hi9 hin 11 89) rfl) (tE rfl)
         | 13,ho,hsk=>
           cases ho
           exact wp_move (.tmp 90) rfl _ (is_tq (hi9 hin 12 90) rfl) (tE rfl)
         | 14,ho,hsk=>
           cases ho
           exact wp_move (.tmp 5) rfl _ ((ho9 hout 5).trans rfl) (tE rfl)
         | 15,ho,hsk=>
           cases ho
           exact wp_move (.tmp 0) rfl _ ((ho9 hout 0).trans rfl) (tE rfl)
         | 16,ho,hsk=>
           cases ho
           exact o_nil (.tmp 93) rfl _ (is_tq (hi9 hin 15 93) rfl) (tE rfl)
         | 17,ho,hsk=>
           cases ho
           exact o_fld47_9 (.tmp 94) rfl b (0) (38) rfl (is_tq (hi9 hin 16 94) rfl) (tE rfl)
         | 18,ho,hsk=>
           cases ho
           exact o_load3 (.tmp 95) rfl _ _ (is_tq (hi9 hin 17 95) rfl) (fits_cell (((unhide M).step hk2).at 0 _ rfl) 38 _ rfl) (tE rfl)
         | 19,ho,hsk=>
           cases ho
           exact c_neq3 (.tmp 92) (.tmp 96) rfl _ _ (true) (hju) (is_tq (hi9 hin 14 92) rfl) (is_tq (hi9 hin 18 96) rfl) (tE rfl)
         | 20,ho,hsk=>
           cases ho
           exact o_pick (.tmp 91) (.tmp 97) rfl _ (is_tq (hi9 hin 13 91) rfl) (is_tq (hi9 hin 19 97) rfl) (tE rfl)
         | 21,ho,hsk=>
           cases ho
           exact o_nil (.tmp 78) rfl _ (is_tq (hi9 hin 0 78) rfl) (tE rfl)
         | 22,ho,hsk=>
           cases ho
           exact o_fld47_8 (.tmp 99) rfl b (0) (30) rfl (is_tq (hi9 hin 21 99) rfl) (tE rfl)
         | 23,ho,hsk=>
           cases ho
           exact o_idx45 (.tmp 100) (.tmp 79) rfl b (30) j (30+j) (hlt) rfl (is_tq (hi9 hin 22 100) rfl) (is_tq (hi9 hin 1 79) rfl) (tE rfl)
         | 24,ho,hsk=>
           cases ho
           exact absurd hi (by decide)
       intro w9 hk9
       replace hk9:Kept [] wr w9:=ud hk9
       simp only [valsQ,List.map_cons,List.map_nil,Option.getD_some,Option.getD_none,List.take_succ_cons,List.take_zero,putAll,Act.put,List.setIfInBounds_toArray,List.set_cons_succ,List.set_cons_zero]
       replace M:=hide ((unhide M).step hk9)
       refine wpAny_all (rs:= [24]) (by kernel_rfl) (by simp) ?_
       intro i hi
       obtain rfl:i=24:=by simpa using hi
       refine wpOp_of rfl rfl (o_stMB size4 (.tmp 101) (.tmp 98) rfl rfl b (30+j) 0 (.bool false) ⟨rfl,rfl⟩ rfl rfl (unhide M) rfl (by show 30+j<40;omega) (Rk.gn_set (r.find.gnTo j) ln j hlt false) (fun W hM KS=> ?_))
       refine wpAny_done (by kernel_rfl) ?_ _
       rw [show ({ (r.find.gnTo j) with gn:=upd (r.find.gnTo j).gn j false } :Rk)=r.find.gnTo (j+1) from gnTo_step r.find j false (by simp [Rk.og,show(j:Int)=r.find.su from of_decide_eq_true hju])] at hM
       replace M:Hid (Mm [b] w W [(b,80,(r.find.gnTo (j+1)).C ln)]):=hide hM
       replace HO:Hid (Ou w W xo (r.find.dropTo j)):=((unhide HO).kept hk9 (by simp)).kept KS (fun k hk=>by have:=(unhide HB0).lt;simp;omega)
       clear hM hk9 KS
       have cg:W.cell? ⟨b,30+j,none⟩=some (.bool false):=by have h9:=Blk.rgn ((unhide M).at 0 _ rfl) hlt;rw [show (r.find.gnTo (j+1)).gn j=false by simp [Rk.gnTo,Rk.og,show(j:Int)=r.find.su from of_decide_eq_true hju]] at h9;exact h9
       have HD:Hid (r.find.dropTo (j+1)=r.find.dropTo j):=by show _=_;rw [Rk.dropTo];simp [Rk.og,show(j:Int)=r.find.su from of_decide_eq_true hju]
       clear hsj hjn hju
       go_wp2_with fail
       go_roundw
       case rel=>exact ⟨j+1,_,by omega,by go_num,rfl,M,by rw [unhide HD];exact HO⟩
       case measure=>simp [intOf];omega
     | false=>
       replace hjn:decide ((j:Int)=(r.hn:Int))=false:=by simpa using hjn
       go_wp2_with fail
       refine wp_region_any mixed (wpAny_tq1 24 rfl (by kernel_rfl) [some (P0 b),some (.int .i64 j),some (P0 b),some (.int .i64 j),some (P0 b),some (.pointer (some ⟨b,2,none⟩)),some (.pointer (some ⟨b,2+j,none⟩)),some (.bool true),some (.bool true),some (.int .i64 j),some (.int .i64 r.hn),some (.bool true),some (.bool true),some (.bool true),some (.int .i64 j),some (P0 b),some (P0 b),some (.pointer (some ⟨b,38,none⟩)),some (.int .i64 ((r.find.gnTo j).su)),some (.bool true),some (.bool true),some (P0 b),some (.pointer (some ⟨b,30,none⟩)),some (.pointer (some ⟨b,30+j,none⟩)),some (undef)] rfl (by kernel_rfl) (by kernel_rfl) ?_ ?_)
       · intro i o' hi hsk ho a' w2 hout hin hk2
         replace hk2:Kept [] wr w2:=ud hk2
         match i,ho,hsk with
         | 0,ho,hsk=>
           cases ho
           exact wp_move (.tmp 0) rfl _ ((ho9 hout 0).trans rfl) (tE rfl)
         | 1,ho,hsk=>
           cases ho
           exact wp_move (.tmp 5) rfl _ ((ho9 hout 5).trans rfl) (tE rfl)
         | 2,ho,hsk=>
           cases ho
           exact wp_move (.tmp 0) rfl _ ((ho9 hout 0).trans rfl) (tE rfl)
         | 3,ho,hsk=>
           cases ho
           exact wp_move (.tmp 5) rfl _ ((ho9 hout 5).trans rfl) (tE rfl)
         | 4,ho,hsk=>
           cases ho
           exact o_nil (.tmp 80) rfl _ (is_tq (hi9 hin 2 80) rfl) (tE rfl)
         | 5,ho,hsk=>
           cases ho
           exact o_fld47_2 (.tmp 82) rfl b (0) (2) rfl (is_tq (hi9 hin 4 82) rfl) (tE rfl)
         | 6,ho,hsk=>
           cases ho
           exact o_idx45 (.tmp 83) (.tmp 81) rfl b (2) j (2+j) (hlt) rfl (is_tq (hi9 hin 5 83) rfl) (is_tq (hi9 hin 3 81) rfl) (tE rfl)
         | 7,ho,hsk=>
           cases ho
           exact o_load4 (.tmp 84) rfl _ _ (is_tq (hi9 hin 6 84) rfl) (by have h9:=Blk.rsh (((unhide M).step hk2).at 0 _ rfl) (hlt);rw [show (r.find.gnTo j).sh j=_ from hsj] at h9;exact h9) (tE rfl)
         | 8,ho,hsk=>
           cases ho
           exact wp_move (.tmp 85) rfl _ (is_tq (hi9 hin 7 85) rfl) (tE rfl)
         | 9,ho,hsk=>
           cases ho
           exact wp_move (.tmp 5) rfl _ ((ho9 hout 5).trans rfl) (tE rfl)
         | 10,ho,hsk=>
           cases ho
           exact wp_move (.tmp 3) rfl _ ((ho9 hout 3).trans rfl) (tE rfl)
         | 11,ho,hsk=>
           cases ho
           exact c_neq3 (.tmp 87) (.tmp 88) rfl _ _ (false) (hjn) (is_tq (hi9 hin 9 87) rfl) (is_tq (hi9 hin 10 88) rfl) (tE rfl)
         | 12,ho,hsk=>
           cases ho
           exact o_pick (.tmp 86) (.tmp 89) rfl _ (is_tq (hi9 hin 8 86) rfl) (is_tq (hi9 hin 11 89) rfl) (tE rfl)
         | 13,ho,hsk=>
           cases ho
           exact wp_move (.tmp 90) rfl _ (is_tq (hi9 hin 12 90) rfl) (tE rfl)
         | 14,ho,hsk=>
           cases ho
           exact wp_move (.tmp 5) rfl _ ((ho9 hout 5).trans rfl) (tE rfl)
         | 15,ho,hsk=>
           cases ho
           exact wp_move (.tmp 0) rfl _ ((ho9 hout 0).trans rfl) (tE rfl)
         | 16,ho,hsk=>
           cases ho
           exact o_nil (.tmp 93) rfl _ (is_tq (hi9 hin 15 93) rfl) (tE rfl)
         | 17,ho,hsk=>
           cases ho
           exact o_fld47_9 (.tmp 94) rfl b (0) (38) rfl (is_tq (hi9 hin 16 94) rfl) (tE rfl)
         | 18,ho,hsk=>
           cases ho
           exact o_load3 (.tmp 95) rfl _ _ (is_tq (hi9 hin 17 95) rfl) (fits_cell (((unhide M).step hk2).at 0 _ rfl) 38 _ rfl) (tE rfl)
         | 19,ho,hsk=>
           cases ho
           exact c_neq3 (.tmp 92) (.tmp 96) rfl _ _ (false) (hju) (is_tq (hi9 hin 14 92) rfl) (is_tq (hi9 hin 18 96) rfl) (tE rfl)
         | 20,ho,hsk=>
           cases ho
           exact o_pick (.tmp 91) (.tmp 97) rfl _ (is_tq (hi9 hin 13 91) rfl) (is_tq (hi9 hin 19 97) rfl) (tE rfl)
         | 21,ho,hsk=>
           cases ho
           exact o_nil (.tmp 78) rfl _ (is_tq (hi9 hin 0 78) rfl) (tE rfl)
         | 22,ho,hsk=>
           cases ho
           exact o_fld47_8 (.tmp 99) rfl b (0) (30) rfl (is_tq (hi9 hin 21 99) rfl) (tE rfl)
         | 23,ho,hsk=>
           cases ho
           exact o_idx45 (.tmp 100) (.tmp 79) rfl b (30) j (30+j) (hlt) rfl (is_tq (hi9 hin 22 100) rfl) (is_tq (hi9 hin 1 79) rfl) (tE rfl)
         | 24,ho,hsk=>
           cases ho
           exact absurd hi (by decide)
       intro w9 hk9
       replace hk9:Kept [] wr w9:=ud hk9
       simp only [valsQ,List.map_cons,List.map_nil,Option.getD_some,Option.getD_none,List.take_succ_cons,List.take_zero,putAll,Act.put,List.setIfInBounds_toArray,List.set_cons_succ,List.set_cons_zero]
       replace M:=hide ((unhide M).step hk9)
       refine wpAny_all (rs:= [24]) (by kernel_rfl) (by simp) ?_
       intro i hi
       obtain rfl:i=24:=by simpa using hi
       refine wpOp_of rfl rfl (o_stMB size4 (.tmp 101) (.tmp 98) rfl rfl b (30+j) 0 (.bool true) ⟨rfl,rfl⟩ rfl rfl (unhide M) rfl (by show 30+j<40;omega) (Rk.gn_set (r.find.gnTo j) ln j hlt true) (fun W hM KS=> ?_))
       refine wpAny_done (by kernel_rfl) ?_ _
       rw [show ({ (r.find.gnTo j) with gn:=upd (r.find.gnTo j).gn j true } :Rk)=r.find.gnTo (j+1) from gnTo_step r.find j true (by simp [Rk.og,show r.find.sh j=true from hsj,show ¬(j:Int)=(r.find.hn:Int) from of_decide_eq_false hjn,show ¬(j:Int)=r.find.su from of_decide_eq_false hju])] at hM
       replace M:Hid (Mm [b] w W [(b,80,(r.find.gnTo (j+1)).C ln)]):=hide hM
       replace HO:Hid (Ou w W xo (r.find.dropTo j)):=((unhide HO).kept hk9 (by simp)).kept KS (fun k hk=>by have:=(unhide HB0).lt;simp;omega)
       clear hM hk9 KS
       have cg:W.cell? ⟨b,30+j,none⟩=some (.bool true):=by have h9:=Blk.rgn ((unhide M).at 0 _ rfl) hlt;rw [show (r.find.gnTo (j+1)).gn j=true by simp [Rk.gnTo,Rk.og,show r.find.sh j=true from hsj,show ¬(j:Int)=(r.find.hn:Int) from of_decide_eq_false hjn,show ¬(j:Int)=r.find.su from of_decide_eq_false hju]] at h9;exact h9
       have HD:Hid (r.find.dropTo (j+1)=r.find.dropTo j++ [⟨4,j,r.op,0,0,0⟩]):=by show _=_;rw [Rk.dropTo];simp [Rk.og,show r.find.sh j=true from hsj,show ¬(j:Int)=(r.find.hn:Int) from of_decide_eq_false hjn,show ¬(j:Int)=r.find.su from of_decide_eq_false hju,show r.find.op=r.op from rfl]
       clear hsj hjn hju
       have c39:W.cell? ⟨b,39,none⟩=some (.int .i64 r.op):=fits_cell ((unhide M).at 0 _ rfl) 39 _ rfl
       go_wp2_with (first |(refine wpBuildP (by rfl) #[(0,.const (.int .i64 4)),(1,.tmp 109),(2,.tmp 113)] (by rfl) #[(0,.int .i64 4),(1,.int .i64 j),(2,.int .i64 r.op)] (by kernel_rfl) (Od.C ⟨4,j,r.op,0,0,0⟩) (boc _ 4 j r.op) ?_;refine Stp.go ?_))
       constructor
       go_wp2_with (first |(refine wpBs28 rfl (.tmp 114) rfl ⟨4,j,r.op,0,0,0⟩ rfl ?_;intro W2 g2 e2 B2 K2;have HB2:=hide B2;replace M:=hide ((unhide M).step K2);replace HO:Hid (Ou w W2 xo (r.find.dropTo j)):=(unhide HO).kept K2 (by simp);clear e2 B2 K2 c39 cg;refine Stp.go ?_))
       constructor
       go_wp2_with (first |(refine wpAppN el28 rfl (.tmp 108) (.tmp 115) rfl xo _ _ rfl (unhide HO) _ 1 (Od.C ⟨4,j,r.op,0,0,0⟩) rfl (Rw.made (unhide HB2) rfl (max1000 (by omega))) (Od.one _) (by have:=dropTo_len r.find j;omega) (max1000 (by have:=dropTo_len r.find j;omega)) (unhide M).kept.size ?_;intro v3 W3 N3 K3;have HO3:Hid (Ou w W3 v3 (r.find.dropTo (j+1))):=(by rw [unhide HD];exact New.app (m:= [⟨4,j,r.op,0,0,0⟩]) N3);replace M:Hid (Mm [b] w W3 [(b,80,(r.find.gnTo (j+1)).C ln)]):=hide ((unhide M).grown K3 (unhide HB0).lt (unhide HO).spare);clear N3 K3;refine Stp.go ?_))
       constructor
       go_wp2_with fail
       go_roundw
       case rel=>exact ⟨j+1,_,by omega,by go_num,rfl,M,HO3⟩
       case measure=>simp [intOf];omega
   · have hd:decide ((j:Int)<8)=false:=by simp;omega
     have HJ:Hid (j=8):=by show _=_;omega
     have hO8:=unhide HO
     have hM8:=unhide M
     rw [unhide HJ] at hO8 hM8
     have HO8:=hide hO8
     replace M:=hide hM8
     clear hO8 hM8 HO
     obtain⟨m,hm0,hm1⟩:∃m:Nat,0<m∧(r.find.dropTo 8).length=m:=⟨_,by have h9:=unhide HD0;exact List.length_pos_iff.2 h9,rfl⟩
     have hmI:(0:Int)<m:=by omega
     have HM1:=hide hm1
     have HR8:Hid (Rw wr 74 6 xo m (odC (r.find.dropTo 8))):=by have h9:=(unhide HO8).row;rw [hm1] at h9;exact h9
     clear hm1
     obtain⟨ao,cc,hxo,_,_⟩:=(unhide HR8).sl
     subst hxo
     go_wp2_with (first |(refine wpStK1 size3 rfl (.tmp 122) (.const (.int .i64 1)) rfl rfl b (29) 0 (.int .i64 1) (⟨rfl,rfl⟩) rfl rfl (unhide M) rfl (show 29+1≤_ from Nat.le_of_ble_eq_true rfl) (rfl) ?_;intro W31 N31 KK;replace M:Hid (Mm [b] w W31 [(b,80,((r.find.gnTo 8).wt1 1).C ln)]):=hide N31;clear N31;replace HO8:Hid (Ou w W31 _ (r.find.dropTo 8)):=⟨(unhide HO8).row.kept KK (fun k hk=>by have:=(unhide HO8).own k hk;have:=(unhide HB0).lt;simp;omega),(unhide HO8).own⟩;clear KK;refine Stp.go ?_))
     constructor
     go_wp2_with fail
     go_ret
     exact RR.rc (r:=((r.find.gnTo 8).wt1 1,r.find.dropTo 8)) ⟨_,rfl,unhide HO8,(unhide M).at 0 _ rfl,(unhide M).kept⟩ (unhide HB0) (unhide HW)
end Go.Proofs.Ytbigongmlpoahaa
