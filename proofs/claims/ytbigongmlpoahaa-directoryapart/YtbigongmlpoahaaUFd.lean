import Derived.Test.YtbigongmlpoahaaUFc
namespace Go.Proofs.Ytbigongmlpoahaa
set_option maxHeartbeats 2000000
set_option maxRecDepth 100000
set_option linter.unusedSimpArgs false
open Go.RowKit
@[reducible] def Ou (w W:World) (v:Value) (l:List Od):Prop:=New w W 74 6 v l.length (odC l)
theorem Ou.made {w W:World} {g:Nat} {x:Od} (h:Blk W g 74 x.C) (hg:w.heap.size≤g):Ou w W (.slice (some ⟨g,0,none⟩) 1 1) [x]:=⟨Rw.made (by simpa [odC] using h) rfl (max1000 (by omega)),fun k hk=>by cases hk;exact hg⟩
def Lo.send (s:Lo) (k m:Int):List Od:=if s.su= -1 then [⟨1,s.hn,s.op,m,0,0⟩] else [⟨k,s.su,s.op,0,s.hn,0⟩]
theorem send_a (s:Lo) (ln:Value) (b:Nat) (k m:Int) (w:World) (h:Blk w b 108 (s.C ln)) (h1:s.su= -1):Calls Try.prog 101 #[P0 b,.int .i64 k,.int .i64 m] w fun e w'=>∃v,e= .returned v∧Ou w w' v [⟨1,s.hn,s.op,m,0,0⟩]∧Kept [] w w':=by
 have M:Hid (Mm [] w w []):=hide Mm.init
 have H:=hide h
 have c31:=fits_cell h 31 _ rfl
 rw [h1] at c31
 clear h
 go_enter Try.func101,Try.ntmps101
 go_wp2_with fail
 clear c31
 refine wp_region_any mixed (wpAny_gx 13 rfl (by kernel_rfl) [some (P0 b),some (P0 b),some (.pointer (some ⟨b,28,none⟩)),some (.pointer (some ⟨b,28,none⟩)),some (.int .i64 s.hn),some (P0 b),some (P0 b),some (.pointer (some ⟨b,30,none⟩)),some (.int .i64 s.op),some (.int .i64 m),some (aggV (Od.C ⟨1,s.hn,s.op,m,0,0⟩)),none,none] rfl (by kernel_rfl) (fun l vs W=>(SN [] w [] 74 (Od.C ⟨1,s.hn,s.op,m,0,0⟩) 11 12) (fun i=>l.getD i false) vs W) (⟨fun _=>(unhide M).drew,(fun h=>by cases h),fun h=>by cases h⟩) ?_ ?_)
 · intro ix o' hi ho a' w2 l vs hls hlf hJ hout hin hdep hnot
   match ix,ho with
   | 0,ho=>
     cases ho
     have e0:=ho9 hout 0
     replace e0:a'.eval (.tmp 0)=_:=e0.trans rfl
     exact wp_move (.tmp 0) rfl _ e0 ⟨_,rfl,told_of rfl,keepG [11,12] SN.loc (by omega) (by decide) hJ⟩
   | 1,ho=>
     cases ho
     exact o_nil (.tmp 12) rfl _ (hx9 (hi9 hin 0 12) rfl) ⟨_,rfl,told_of rfl,keepG [11,12] SN.loc (by omega) (by decide) hJ⟩
   | 2,ho=>
     cases ho
     exact o_fld75_7 (.tmp 13) rfl b (0) (28) rfl (hx9 (hi9 hin 1 13) rfl) ⟨_,rfl,told_of rfl,keepG [11,12] SN.loc (by omega) (by decide) hJ⟩
   | 3,ho=>
     cases ho
     exact o_fld41_0 (.tmp 14) rfl b (28) (28) rfl (hx9 (hi9 hin 2 14) rfl) ⟨_,rfl,told_of rfl,keepG [11,12] SN.loc (by omega) (by decide) hJ⟩
   | 4,ho=>
     cases ho
     exact o_load3 (.tmp 15) rfl _ _ (hx9 (hi9 hin 3 15) rfl) (fits_cell ((unhide H).kept (SN.kept hJ) (by simp)) 28 _ rfl) ⟨_,rfl,told_of rfl,keepG [11,12] SN.loc (by omega) (by decide) hJ⟩
   | 5,ho=>
     cases ho
     have e0:=ho9 hout 0
     replace e0:a'.eval (.tmp 0)=_:=e0.trans rfl
     exact wp_move (.tmp 0) rfl _ e0 ⟨_,rfl,told_of rfl,keepG [11,12] SN.loc (by omega) (by decide) hJ⟩
   | 6,ho=>
     cases ho
     exact o_nil (.tmp 17) rfl _ (hx9 (hi9 hin 5 17) rfl) ⟨_,rfl,told_of rfl,keepG [11,12] SN.loc (by omega) (by decide) hJ⟩
   | 7,ho=>
     cases ho
     exact o_fld75_8 (.tmp 18) rfl b (0) (30) rfl (hx9 (hi9 hin 6 18) rfl) ⟨_,rfl,told_of rfl,keepG [11,12] SN.loc (by omega) (by decide) hJ⟩
   | 8,ho=>
     cases ho
     exact o_load2 (.tmp 19) rfl _ _ (hx9 (hi9 hin 7 19) rfl) (fits_cell ((unhide H).kept (SN.kept hJ) (by simp)) 30 _ rfl) ⟨_,rfl,told_of rfl,keepG [11,12] SN.loc (by omega) (by decide) hJ⟩
   | 9,ho=>
     cases ho
     have e0:=ho9 hout 2
     replace e0:a'.eval (.tmp 2)=_:=e0.trans rfl
     exact wp_move (.tmp 2) rfl _ e0 ⟨_,rfl,told_of rfl,keepG [11,12] SN.loc (by omega) (by decide) hJ⟩
   | 10,ho=>
     cases ho
     exact o_boa (.const (.int .i64 1)) (.tmp 16) (.tmp 20) (.tmp 21) rfl _ _ _ _ rfl (hx9 (hi9 hin 4 16) rfl) (hx9 (hi9 hin 8 20) rfl) (hx9 (hi9 hin 9 21) rfl) ⟨_,rfl,told_of rfl,keepG [11,12] SN.loc (by omega) (by decide) hJ⟩
   | 11,ho=>
     cases ho
     have e0:a'.eval (.tmp 22)=aggV (Od.C ⟨1,s.hn,s.op,m,0,0⟩):=hx9 (hi9 hin 10 22) rfl
     refine o_bs28 (.tmp 22) rfl _ e0 (fun W g h1 h2 h3=> ?_)
     exact⟨_,rfl,told_no rfl,nextG (by omega) (SN.make hJ hlf (ho9 hnot 12) (by decide) h1 h2 h3)⟩
   | 12,ho=>
     cases ho
     have e0:a'.eval (.tmp 23)=vs 11:=(hi9 hin 11 23).1
     exact wp_assignV (.tmp 23) rfl _ e0 ⟨_,rfl,told_no rfl,nextG (by omega) (SN.give hJ (ho9 hdep 11) (by decide))⟩
 intro l_ vs4 V4 hl hJ htold
 have t0:vs4 0=P0 b:=told_is _ (htold 0 (by decide)) rfl
 have t1:vs4 1=P0 b:=told_is _ (htold 1 (by decide)) rfl
 have t2:vs4 2= .pointer (some ⟨b,28,none⟩):=told_is _ (htold 2 (by decide)) rfl
 have t3:vs4 3= .pointer (some ⟨b,28,none⟩):=told_is _ (htold 3 (by decide)) rfl
 have t4:vs4 4= .int .i64 s.hn:=told_is _ (htold 4 (by decide)) rfl
 have t5:vs4 5=P0 b:=told_is _ (htold 5 (by decide)) rfl
 have t6:vs4 6=P0 b:=told_is _ (htold 6 (by decide)) rfl
 have t7:vs4 7= .pointer (some ⟨b,30,none⟩):=told_is _ (htold 7 (by decide)) rfl
 have t8:vs4 8= .int .i64 s.op:=told_is _ (htold 8 (by decide)) rfl
 have t9:vs4 9= .int .i64 m:=told_is _ (htold 9 (by decide)) rfl
 have t10:vs4 10=aggV (Od.C ⟨1,s.hn,s.op,m,0,0⟩):=told_is _ (htold 10 (by decide)) rfl
 rw [show (List.range 13).map vs4= [vs4 0,vs4 1,vs4 2,vs4 3,vs4 4,vs4 5,vs4 6,vs4 7,vs4 8,vs4 9,vs4 10,vs4 11,vs4 12] from rfl]
 simp only [t0,t1,t2,t3,t4,t5,t6,t7,t8,t9,t10,putAll,Act.put,List.setIfInBounds_toArray,List.set_cons_succ,List.set_cons_zero]
 clear t0 t1 t2 t3 t4 t5 t6 t7 t8 t9 t10 htold
 obtain⟨_,h2,h3⟩:=hJ
 obtain⟨g,eg,hg,hM⟩:=h2 (hl 11 (by decide))
 have e6:=h3 (hl 12 (by decide))
 rw [eg] at e6
 rw [e6,eg]
 have HM:=hide hM
 have HG:=hide hg
 clear h2 h3 hM hg e6 eg hl
 go_wp2_with fail
 go_ret
 exact⟨_,rfl,Ou.made ((unhide HM).at 0 _ rfl) (unhide HG),(unhide HM).kept⟩
theorem send_b (s:Lo) (ln:Value) (b:Nat) (k m:Int) (w:World) (h:Blk w b 108 (s.C ln)) (h1:¬s.su= -1):Calls Try.prog 101 #[P0 b,.int .i64 k,.int .i64 m] w fun e w'=>∃v,e= .returned v∧Ou w w' v [⟨k,s.su,s.op,0,s.hn,0⟩]∧Kept [] w w':=by
 have M:Hid (Mm [] w w []):=hide Mm.init
 have H:=hide h
 have c31:=fits_cell h 31 _ rfl
 have h1a:decide (s.su= -1)=false:=nef_a h1
 have h1b:(s.su == -1)=false:=nef_b h1
 have h1c:(s.su != -1)=true:=nef_c h1
 clear h
 go_enter Try.func101,Try.ntmps101
 go_wp2_with fail
 clear c31
 refine wp_region_any mixed (wpAny_gx 17 rfl (by kernel_rfl) [some (.int .i64 k),some (P0 b),some (P0 b),some (.pointer (some ⟨b,31,none⟩)),some (.int .i64 s.su),some (P0 b),some (P0 b),some (.pointer (some ⟨b,30,none⟩)),some (.int .i64 s.op),some (P0 b),some (P0 b),some (.pointer (some ⟨b,28,none⟩)),some (.pointer (some ⟨b,28,none⟩)),some (.int .i64 s.hn),some (aggV (Od.C ⟨k,s.su,s.op,0,s.hn,0⟩)),none,none] rfl (by kernel_rfl) (fun l vs W=>(SN [] w [] 74 (Od.C ⟨k,s.su,s.op,0,s.hn,0⟩) 15 16) (fun i=>l.getD i false) vs W) (⟨fun _=>(unhide M).drew,(fun h=>by cases h),fun h=>by cases h⟩) ?_ ?_)
 · intro ix o' hi ho a' w2 l vs hls hlf hJ hout hin hdep hnot
   match ix,ho with
   | 0,ho=>
     cases ho
     have e0:=ho9 hout 1
     replace e0:a'.eval (.tmp 1)=_:=e0.trans rfl
     exact wp_move (.tmp 1) rfl _ e0 ⟨_,rfl,told_of rfl,keepG [15,16] SN.loc (by omega) (by decide) hJ⟩
   | 1,ho=>
     cases ho
     have e0:=ho9 hout 0
     replace e0:a'.eval (.tmp 0)=_:=e0.trans rfl
     exact wp_move (.tmp 0) rfl _ e0 ⟨_,rfl,told_of rfl,keepG [15,16] SN.loc (by omega) (by decide) hJ⟩
   | 2,ho=>
     cases ho
     exact o_nil (.tmp 25) rfl _ (hx9 (hi9 hin 1 25) rfl) ⟨_,rfl,told_of rfl,keepG [15,16] SN.loc (by omega) (by decide) hJ⟩
   | 3,ho=>
     cases ho
     exact o_fld75_9 (.tmp 26) rfl b (0) (31) rfl (hx9 (hi9 hin 2 26) rfl) ⟨_,rfl,told_of rfl,keepG [15,16] SN.loc (by omega) (by decide) hJ⟩
   | 4,ho=>
     cases ho
     exact o_load3 (.tmp 27) rfl _ _ (hx9 (hi9 hin 3 27) rfl) (fits_cell ((unhide H).kept (SN.kept hJ) (by simp)) 31 _ rfl) ⟨_,rfl,told_of rfl,keepG [15,16] SN.loc (by omega) (by decide) hJ⟩
   | 5,ho=>
     cases ho
     have e0:=ho9 hout 0
     replace e0:a'.eval (.tmp 0)=_:=e0.trans rfl
     exact wp_move (.tmp 0) rfl _ e0 ⟨_,rfl,told_of rfl,keepG [15,16] SN.loc (by omega) (by decide) hJ⟩
   | 6,ho=>
     cases ho
     exact o_nil (.tmp 29) rfl _ (hx9 (hi9 hin 5 29) rfl) ⟨_,rfl,told_of rfl,keepG [15,16] SN.loc (by omega) (by decide) hJ⟩
   | 7,ho=>
     cases ho
     exact o_fld75_8 (.tmp 30) rfl b (0) (30) rfl (hx9 (hi9 hin 6 30) rfl) ⟨_,rfl,told_of rfl,keepG [15,16] SN.loc (by omega) (by decide) hJ⟩
   | 8,ho=>
     cases ho
     exact o_load2 (.tmp 31) rfl _ _ (hx9 (hi9 hin 7 31) rfl) (fits_cell ((unhide H).kept (SN.kept hJ) (by simp)) 30 _ rfl) ⟨_,rfl,told_of rfl,keepG [15,16] SN.loc (by omega) (by decide) hJ⟩
   | 9,ho=>
     cases ho
     have e0:=ho9 hout 0
     replace e0:a'.eval (.tmp 0)=_:=e0.trans rfl
     exact wp_move (.tmp 0) rfl _ e0 ⟨_,rfl,told_of rfl,keepG [15,16] SN.loc (by omega) (by decide) hJ⟩
   | 10,ho=>
     cases ho
     exact o_nil (.tmp 33) rfl _ (hx9 (hi9 hin 9 33) rfl) ⟨_,rfl,told_of rfl,keepG [15,16] SN.loc (by omega) (by decide) hJ⟩
   | 11,ho=>
     cases ho
     exact o_fld75_7 (.tmp 34) rfl b (0) (28) rfl (hx9 (hi9 hin 10 34) rfl) ⟨_,rfl,told_of rfl,keepG [15,16] SN.loc (by omega) (by decide) hJ⟩
   | 12,ho=>
     cases ho
     exact o_fld41_0 (.tmp 35) rfl b (28) (28) rfl (hx9 (hi9 hin 11 35) rfl) ⟨_,rfl,told_of rfl,keepG [15,16] SN.loc (by omega) (by decide) hJ⟩
   | 13,ho=>
     cases ho
     exact o_load3 (.tmp 36) rfl _ _ (hx9 (hi9 hin 12 36) rfl) (fits_cell ((unhide H).kept (SN.kept hJ) (by simp)) 28 _ rfl) ⟨_,rfl,told_of rfl,keepG [15,16] SN.loc (by omega) (by decide) hJ⟩
   | 14,ho=>
     cases ho
     exact o_bob (.tmp 24) (.tmp 28) (.tmp 32) (.tmp 37) rfl _ _ _ _ (hx9 (hi9 hin 0 24) rfl) (hx9 (hi9 hin 4 28) rfl) (hx9 (hi9 hin 8 32) rfl) (hx9 (hi9 hin 13 37) rfl) ⟨_,rfl,told_of rfl,keepG [15,16] SN.loc (by omega) (by decide) hJ⟩
   | 15,ho=>
     cases ho
     have e0:a'.eval (.tmp 38)=aggV (Od.C ⟨k,s.su,s.op,0,s.hn,0⟩):=hx9 (hi9 hin 14 38) rfl
     refine o_bs28 (.tmp 38) rfl _ e0 (fun W g h1 h2 h3=> ?_)
     exact⟨_,rfl,told_no rfl,nextG (by omega) (SN.make hJ hlf (ho9 hnot 16) (by decide) h1 h2 h3)⟩
   | 16,ho=>
     cases ho
     have e0:a'.eval (.tmp 39)=vs 15:=(hi9 hin 15 39).1
     exact wp_assignV (.tmp 39) rfl _ e0 ⟨_,rfl,told_no rfl,nextG (by omega) (SN.give hJ (ho9 hdep 15) (by decide))⟩
 intro l_ vs4 V4 hl hJ htold
 have t0:vs4 0= .int .i64 k:=told_is _ (htold 0 (by decide)) rfl
 have t1:vs4 1=P0 b:=told_is _ (htold 1 (by decide)) rfl
 have t2:vs4 2=P0 b:=told_is _ (htold 2 (by decide)) rfl
 have t3:vs4 3= .pointer (some ⟨b,31,none⟩):=told_is _ (htold 3 (by decide)) rfl
 have t4:vs4 4= .int .i64 s.su:=told_is _ (htold 4 (by decide)) rfl
 have t5:vs4 5=P0 b:=told_is _ (htold 5 (by decide)) rfl
 have t6:vs4 6=P0 b:=told_is _ (htold 6 (by decide)) rfl
 have t7:vs4 7= .pointer (some ⟨b,30,none⟩):=told_is _ (htold 7 (by decide)) rfl
 have t8:vs4 8= .int .i64 s.op:=told_is _ (htold 8 (by decide)) rfl
 have t9:vs4 9=P0 b:=told_is _ (htold 9 (by decide)) rfl
 have t10:vs4 10=P0 b:=told_is _ (htold 10 (by decide)) rfl
 have t11:vs4 11= .pointer (some ⟨b,28,none⟩):=told_is _ (htold 11 (by decide)) rfl
 have t12:vs4 12= .pointer (some ⟨b,28,none⟩):=told_is _ (htold 12 (by decide)) rfl
 have t13:vs4 13= .int .i64 s.hn:=told_is _ (htold 13 (by decide)) rfl
 have t14:vs4 14=aggV (Od.C ⟨k,s.su,s.op,0,s.hn,0⟩):=told_is _ (htold 14 (by decide)) rfl
 rw [show (List.range 17).map vs4= [vs4 0,vs4 1,vs4 2,vs4 3,vs4 4,vs4 5,vs4 6,vs4 7,vs4 8,vs4 9,vs4 10,vs4 11,vs4 12,vs4 13,vs4 14,vs4 15,vs4 16] from rfl]
 simp only [t0,t1,t2,t3,t4,t5,t6,t7,t8,t9,t10,t11,t12,t13,t14,putAll,Act.put,List.setIfInBounds_toArray,List.set_cons_succ,List.set_cons_zero]
 clear t0 t1 t2 t3 t4 t5 t6 t7 t8 t9 t10 t11 t12 t13 t14 htold
 obtain⟨_,h2,h3⟩:=hJ
 obtain⟨g,eg,hg,hM⟩:=h2 (hl 15 (by decide))
 have e6:=h3 (hl 16 (by decide))
 rw [eg] at e6
 rw [e6,eg]
 have HM:=hide hM
 have HG:=hide hg
 clear h2 h3 hM hg e6 eg hl
 go_wp2_with fail
 go_ret
 exact⟨_,rfl,Ou.made ((unhide HM).at 0 _ rfl) (unhide HG),(unhide HM).kept⟩
theorem send77 (s:Lo) (ln:Value) (b:Nat) (k m:Int) (w:World) (h:Blk w b 108 (s.C ln)):Calls Try.prog 101 #[P0 b,.int .i64 k,.int .i64 m] w fun e w'=>∃v,e= .returned v∧Ou w w' v (s.send k m)∧Kept [] w w':=by
 unfold Lo.send
 by_cases h1:s.su= -1
 · rw [if_pos h1];exact send_a s ln b k m w h h1
 · rw [if_neg h1];exact send_b s ln b k m w h h1
end Go.Proofs.Ytbigongmlpoahaa
