import Derived.Test.YtbigongmlpoahaaUFi
namespace Go.Proofs.Ytbigongmlpoahaa
set_option maxHeartbeats 8000000
set_option maxRecDepth 100000
set_option linter.unusedSimpArgs false
open Go.RowKit
def Lo.begin (s:Lo):Lo×List Od:=if s.hk=1 then s.bSh else if s.hk=2 then s.bEx else s.bCl
def Lo.take (s:Lo) (x:Wi):Lo:= { s with hn:=x.n,hk:=x.k,op:=s.op+1 }
def nextP (s:Lo):List Wi→Lo×List Wi×List Od
 | []=>(s,[],[])
 | x::r=>if (s.take x).begin.1.busy then ((s.take x).begin.1,r,(s.take x).begin.2) else ((nextP (s.take x).begin.1 r).1,(nextP (s.take x).begin.1 r).2.1,(s.take x).begin.2++(nextP (s.take x).begin.1 r).2.2)
def Wi.Ok (x:Wi):Prop:=x.n<8∧(x.k=1∨x.k=2∨x.k=3)
structure Sub (u v:Value):Prop where
 own:∀k,u.ownBlock=some k→v.ownBlock=some k
 spare:∀k∈spare u,k∈Ytbigongmlpoahaa.spare v
theorem Sub.refl (v:Value):Sub v v:=⟨fun _ h=>h,fun _ h=>h⟩
theorem Sub.trans {u v x:Value} (h:Sub u v) (k:Sub v x):Sub u x:=⟨fun i hi=>k.own i (h.own i hi),fun i hi=>k.spare i (h.spare i hi)⟩
theorem take_ok {s:Lo} (h:s.Ok) {x:Wi} (hx:x.Ok):(s.take x).Ok:=⟨h.ex,h.ow,h.su,hx.1⟩
theorem handOn_ok {s:Lo} (h:s.Ok):s.handOn.1.Ok:=find_ok h
theorem handOver_ok {s:Lo} (h:s.Ok):s.handOver.1.Ok:=wait_ok (find_ok h)
theorem needless_ok {s:Lo} (h:s.Ok):s.needless.1.Ok:=over_ok (setPa_ok h _ _)
theorem bSh_ok {s:Lo} (h:s.Ok):s.bSh.1.Ok:=by
 unfold Lo.bSh;split
 · exact over_ok h
 · exact handOn_ok h
theorem bEx_ok {s:Lo} (h:s.Ok):s.bEx.1.Ok:=by
 unfold Lo.bEx;split
 · exact over_ok h
 · exact handOver_ok h
theorem bCl_ok {s:Lo} (h:s.Ok):s.bCl.1.Ok:=by
 unfold Lo.bCl;split
 · exact needless_ok (setPa_ok h _ _)
 · exact setPa_ok h _ _
theorem begin_ok {s:Lo} (h:s.Ok):s.begin.1.Ok:=by
 unfold Lo.begin
 split
 · exact bSh_ok h
 · split
   · exact bEx_ok h
   · exact bCl_ok h
theorem bSh_op (s:Lo):s.bSh.1.op=s.op:=by unfold Lo.bSh;split <;> rfl
theorem bEx_op (s:Lo):s.bEx.1.op=s.op:=by unfold Lo.bEx;split <;> rfl
theorem bCl_op (s:Lo):s.bCl.1.op=s.op:=by unfold Lo.bCl;split <;> rfl
theorem begin_op (s:Lo):s.begin.1.op=s.op:=by
 unfold Lo.begin
 split
 · exact bSh_op s
 · split
   · exact bEx_op s
   · exact bCl_op s
theorem drops_len (s:Lo):s.drops.length≤8:=by simp [Lo.drops];exact lstTo_len _ 8
theorem send_len (s:Lo) (k m:Int):(s.send k m).length≤8:=by unfold Lo.send;split <;> simp
theorem begin_len (s:Lo):s.begin.2.length≤8:=by
 have h1:s.handOn.2.length≤8:=send_len _ _ _
 have h2:s.handOver.2.length≤8:=by
   unfold Lo.handOver
   simp only
   split
   · exact send_len _ _ _
   · exact drops_len _
 unfold Lo.begin
 split
 · unfold Lo.bSh;split
   · simp
   · exact h1
 · split
   · unfold Lo.bEx;split
     · simp
     · exact h2
   · unfold Lo.bCl Lo.needless;split <;> simp
theorem Ws.first {W:World} {g o n c:Nat} {x:Wi} {r:List Wi} (h:Rw W 38 2 (.slice (some ⟨g,o,none⟩) n c) n (wsC (x::r))):W.rangeAt g o x.C:=by
 intro j u hj
 have hj2:j<2:=by have:=(List.getElem?_eq_some_iff.1 hj).1;simpa [Wi.C] using this
 have:=h.cell (j:=j) (u:=u) (by
   have:=wsC_at (l:=x::r) (i:=0) (x:=x) rfl j hj2
   rw [Nat.zero_mul,Nat.zero_add] at this
   rw [this];exact hj)
 rw [Addr.add_lit] at this
 exact this
@[reducible] def LN (b:Nat) (ln:Value) (w:World) (r:Lo×List Wi×List Od) (e:Ending) (w':World):Prop:=∃v ln',e= .returned v∧Ou w w' v r.2.2∧Blk w' b 108 (r.1.C ln')∧Ws w' ln' r.2.1∧Kept [b] w w'∧Sub ln' ln
theorem New.app {w W:World} {v:Value} {l m:List Od} (h:New w W 74 6 v (l.length+m.length) (odC l++odC m)):Ou w W v (l++m):=by
 show New _ _ _ _ _ _ _
 rw [List.length_append,odC_app];exact h
theorem begins (k:Int) (hk:k=1∨k=2∨k=3):∃f:FuncId,(∀w:World,(Instr.findKey 36 (.int .i64 k) bgs.toList).run Try.prog w= .ok (some (k.toNat-1,.func (.func f) #[] #[])) w)∧(∀vs w,(callFunc f vs).run Try.prog w= .ok (.enter f vs) w)∧∀(s:Lo) (ln:Value) (b:Nat) (w:World),s.hk=k→Blk w b 108 (s.C ln)→s.Ok→Calls Try.prog f #[P0 b] w (LR b ln w s.begin):=by
 rcases hk with rfl | rfl | rfl
 · refine⟨102,find1,cg78,fun s ln b w h1 h2 h3=> ?_⟩
   unfold Lo.begin;rw [if_pos h1];exact bSh78 s ln b w h2 h3
 · refine⟨103,find2,cg79,fun s ln b w h1 h2 h3=> ?_⟩
   unfold Lo.begin;rw [if_neg (by omega),if_pos h1];exact bEx79 s ln b w h2 h3
 · refine⟨104,find3,cg80,fun s ln b w h1 h2 h3=> ?_⟩
   unfold Lo.begin;rw [if_neg (by omega),if_neg (by omega)];exact bCl80 s ln b w h2 h3
theorem Ws.open {W:World} {v:Value} {x:Wi} {r:List Wi} (h:Ws W v (x::r)):∃g o n c,v= .slice (some ⟨g,o,none⟩) n c∧n=r.length+1∧n≤c∧Rw W 38 2 (.slice (some ⟨g,o,none⟩) n c) n (wsC (x::r)):=by
 obtain⟨g,off,c,rfl,_⟩:=Ws.get h (i:=0) (x:=x) rfl
 obtain⟨ao,c',e,hc,_⟩:=h.sl
 cases e
 exact⟨g,off,_,c,rfl,rfl,hc,h⟩
structure NxI (w wr:World) (b gm:Nat) (ln:Value) (s:Lo) (L:List Wi) (s1:Lo) (ln1:Value) (L1:List Wi) (xo:Value) (O1:List Od):Prop where
 blk:Blk wr b 108 (s1.C ln1)
 row:Ws wr ln1 L1
 out:Ou w wr xo O1
 mp:Mp wr gm
 kept:Kept [b] w wr
 sub:Sub ln1 ln
 ok:s1.Ok
 all:∀x∈L1,x.Ok
 op0:0≤s1.op
 op1:s1.op+L1.length≤1000000
 len:O1.length+8*L1.length≤8*L.length
 eq:nextP s L=((nextP s1 L1).1,(nextP s1 L1).2.1,O1++(nextP s1 L1).2.2)
def lenAt (W:World) (b:Nat):Nat:=match W.cell? ⟨b,27,none⟩ with
 | some (.slice _ n _)=>n
 | _=>0
theorem lenAt_n {W:World} {b n c:Nat} {s:Lo} {ao:Option Addr} (h:Blk W b 108 (s.C (.slice ao n c))):lenAt W b=n:=by
 unfold lenAt
 rw [fits_cell h 27 _ rfl]
theorem lenAt_is {W:World} {b:Nat} {s:Lo} {ln:Value} {L:List Wi} (h:Blk W b 108 (s.C ln)) (k:Ws W ln L):lenAt W b=L.length:=by
 obtain⟨ao,c,rfl,_⟩:=k.sl
 unfold lenAt
 rw [fits_cell h 27 _ rfl]
theorem Ws.rest1 {W:World} {g o n c:Nat} {x:Wi} {r:List Wi} (h:Rw W 38 2 (.slice (some ⟨g,o,none⟩) n c) n (wsC (x::r))) (hn:n=r.length+1):Ws W (restV 2 (some ⟨g,o,none⟩) n c 1) r:=by
 have:=h.rest 1 (by omega)
 rw [show n-1=r.length by omega] at this
 exact this
theorem Mp.notRow {W:World} {g e z n:Nat} {v:Value} {xs:List Value} (h:Mp W g) (k:Rw W e z v n xs):v.ownBlock=some g→False:=by
 intro hg
 obtain⟨cs,hc⟩:=k.block g hg
 unfold Mp at h
 rw [h] at hc
 injection hc with hc
 cases hc
theorem next55 (s:Lo) (ln:Value) (b:Nat) (L:List Wi) (w:World) (h:Blk w b 108 (s.C ln)) (hs:s.Ok) (hW:Ws w ln L) (hall:∀x∈L,x.Ok) (hop:0≤s.op∧s.op+L.length≤1000000) (hL:L.length≤1000):Calls Try.prog 86 #[P0 b] w (LN b ln w (nextP s L)):=by
 have HB0:=hide h
 have HN:Hid (∀W gm,Mp W gm→Kept [] w W→NxI w W b gm ln s L s ln L (.slice none 0 0) []):=fun W gm h1 h2=>⟨h.kept h2 (by simp),hW.kept h2 (by simp),New.nil _ _ _ _,h1,h2.mono (by simp),Sub.refl _,hs,hall,hop.1,hop.2,by simp,by simp⟩
 clear h hs hW hall hop
 go_enter Try.func86,Try.ntmps86
 go_wp2_with fail
 go_step3
 go_wp2_with (first |(go_at_call 96;refine(beginnings70 _).mono ?_;rintro e W1 ⟨gm,rfl,h1,h2,h3⟩;have HI:=hide (unhide HN W1 gm h2 h3);clear h1 h2 h3 HN;refine Stp.go ?_))
 constructor
 go_wp2_with fail
 go_step3
 go_wp2_with fail
 go_loopw [4] (fun u wr=>∃(s1:Lo) (ln1:Value) (L1:List Wi) (xo:Value) (O1:List Od),xo=u∧Hid (NxI w wr b gm ln s L s1 ln1 L1 xo O1)) (fun _ wr=>lenAt wr b)
 case atStart=>exact ⟨s,ln,L,_,[],rfl,HI⟩
 case round=>
   clear HI
   obtain⟨s1,ln1,L1,xo,O1,rfl,HI⟩:=hrel
   have HB1:=hide (unhide HI).blk
   have HO1:=hide (unhide HI).out
   have HMp:=hide (unhide HI).mp
   have HK1:=hide (unhide HI).kept
   have c27:=fits_cell (unhide HB1) 27 _ rfl
   cases L1 with
   | nil=>
     obtain⟨ao,c,hl,_,_⟩:=(unhide HI).row.sl
     rw [hl] at c27
     have HL1:=hide hl
     clear hl
     go_wp2_with fail
     try rw [Exit.noGoto_ret]
     go_ret
     have h9:=(unhide HI).eq
     simp only [nextP,List.append_nil] at h9
     refine⟨_,_,rfl,?_,?_,?_,unhide HK1,(unhide HI).sub⟩
     · rw [h9];exact unhide HO1
     · rw [h9];exact unhide HB1
     · rw [h9];exact(unhide HI).row
   | cons x r=>
     obtain⟨g1,o1,n1,c1,hln,hnr,hnc,hr1⟩:=Ws.open (unhide HI).row
     have HW1:=hide hr1
     have hn1:0<n1:=by omega
     have hn1I:(0:Int)<n1:=by omega
     have hSu1:=(unhide HI).sub
     rw [hln] at c27 HB1 hSu1
     have hxo:=(unhide HI).all x (by simp)
     obtain⟨f,hf,hcf,hcall⟩:=begins x.k hxo.2
     have HTk:Hid ((s1.take x).Ok):=take_ok (unhide HI).ok hxo
     have HOk:Hid ((s1.take x).begin.1.Ok):=begin_ok (unhide HTk)
     have HAl:Hid (∀y∈r,y.Ok):=fun y hy=>(unhide HI).all y (by simp [hy])
     have o1a:=(unhide HI).op0
     have o1b:=(unhide HI).op1
     have HOp:Hid (0≤(s1.take x).begin.1.op∧(s1.take x).begin.1.op+r.length≤1000000):=by
       show _∧_
       rw [begin_op]
       simp only [Lo.take]
       simp at o1b
       omega
     have HLe:Hid (O1.length+8*(x::r).length≤8*L.length∧L.length≤1000):=⟨(unhide HI).len,hL⟩
     have HSu:Hid (Sub (restV 2 (some ⟨g1,o1,none⟩) n1 c1 1) ln):=Sub.trans ⟨fun k hk=>by rw [rest_own] at hk;exact hk,rest_spare 2 _ n1 c1 1 (by omega)⟩ hSu1
     have o1c:s1.op≤1000000:=by simp at o1b;omega
     have HEq0:=hide (unhide HI).eq
     have M:Hid (Mm [b] wr wr [(b,108,s1.C (.slice (some ⟨g1,o1,none⟩) n1 c1))]):=hide (Mm.one (unhide HB1))
     clear hSu1 hxo o1b HI hln hr1
     cases hbz:(s1.take x).begin.1.busy with
     | true=>
       have HBz:=hide hbz
       have HEq:Hid (nextP s L=((s1.take x).begin.1,r,O1++(s1.take x).begin.2)):=by
         show _=_
         rw [unhide HEq0,nextP,if_pos hbz]
       clear hbz HEq0
       go_wp2_with fail
       clear c27
       refine wp_region_any mixed (wpAny_gx 19 rfl (by kernel_rfl) [some (P0 b),some (P0 b),some (P0 b),some (P0 b),some (.pointer (some ⟨b,27,none⟩)),some ((.slice (some ⟨g1,o1,none⟩) n1 c1)),some (.pointer (some ⟨g1,o1,none⟩)),some (aggV x.C),some (P0 b),some (P0 b),some (.pointer (some ⟨b,27,none⟩)),some ((.slice (some ⟨g1,o1,none⟩) n1 c1)),some ((restV 2 (some ⟨g1,o1,none⟩) n1 c1 1)),some (P0 b),some (.pointer (some ⟨b,28,none⟩)),none,some (P0 b),some (.pointer (some ⟨b,27,none⟩)),none] rfl (by kernel_rfl) (fun l vs W=>(SD2 [b] wr (fun d1 d2=> [(b,108,Lo.C { s1 with hn:=cond d1 x.n s1.hn,hk:=cond d1 x.k s1.hk } (cond d2 (restV 2 (some ⟨g1,o1,none⟩) n1 c1 1) (.slice (some ⟨g1,o1,none⟩) n1 c1)))]) 15 18) (fun i=>l.getD i false) vs W) ((unhide M).drew) ?_ ?_)
       · intro ix o' hi ho a' w2 l vs hls hlf hJ hout hin hdep hnot
         match ix,ho with
         | 0,ho=>
           cases ho
           have e0:=ho9 hout 0
           replace e0:a'.eval (.tmp 0)=_:=e0.trans rfl
           exact wp_move (.tmp 0) rfl _ e0 ⟨_,rfl,told_of rfl,keepG [15,18] SD2.loc (by omega) (by decide) hJ⟩
         | 1,ho=>
           cases ho
           have e0:=ho9 hout 0
           replace e0:a'.eval (.tmp 0)=_:=e0.trans rfl
           exact wp_move (.tmp 0) rfl _ e0 ⟨_,rfl,told_of rfl,keepG [15,18] SD2.loc (by omega) (by decide) hJ⟩
         | 2,ho=>
           cases ho
           have e0:=ho9 hout 0
           replace e0:a'.eval (.tmp 0)=_:=e0.trans rfl
           exact wp_move (.tmp 0) rfl _ e0 ⟨_,rfl,told_of rfl,keepG [15,18] SD2.loc (by omega) (by decide) hJ⟩
         | 3,ho=>
           cases ho
           exact o_nil (.tmp 14) rfl _ (hx9 (hi9 hin 2 14) rfl) ⟨_,rfl,told_of rfl,keepG [15,18] SD2.loc (by omega) (by decide) hJ⟩
         | 4,ho=>
           cases ho
           exact o_fld75_6 (.tmp 15) rfl b (0) (27) rfl (hx9 (hi9 hin 3 15) rfl) ⟨_,rfl,told_of rfl,keepG [15,18] SD2.loc (by omega) (by decide) hJ⟩
         | 5,ho=>
           cases ho
           exact o_load38 (.tmp 16) rfl _ _ (hx9 (hi9 hin 4 16) rfl) (fits_cell (Mm.at (SD2.no2 hJ (ho9 hnot 18)) 0 _ rfl) 27 _ rfl) ⟨_,rfl,told_of rfl,keepG [15,18] SD2.loc (by omega) (by decide) hJ⟩
         | 6,ho=>
           cases ho
           exact o_idx38z (.tmp 17) rfl g1 o1 n1 c1 hn1 (hx9 (hi9 hin 5 17) rfl) ⟨_,rfl,told_of rfl,keepG [15,18] SD2.loc (by omega) (by decide) hJ⟩
         | 7,ho=>
           cases ho
           exact wp_loadA row41 (.tmp 18) rfl g1 (o1) (hx9 (hi9 hin 6 18) rfl) (x.C) rfl (Ws.first (Rw.kept (unhide HW1) (Mm.kept hJ) (Rw.ne (unhide HW1) (unhide HB1) (by decide)))) ⟨_,rfl,told_of rfl,keepG [15,18] SD2.loc (by omega) (by decide) hJ⟩
         | 8,ho=>
           cases ho
           have e0:=ho9 hout 0
           replace e0:a'.eval (.tmp 0)=_:=e0.trans rfl
           exact wp_move (.tmp 0) rfl _ e0 ⟨_,rfl,told_of rfl,keepG [15,18] SD2.loc (by omega) (by decide) hJ⟩
         | 9,ho=>
           cases ho
           exact o_nil (.tmp 20) rfl _ (hx9 (hi9 hin 8 20) rfl) ⟨_,rfl,told_of rfl,keepG [15,18] SD2.loc (by omega) (by decide) hJ⟩
         | 10,ho=>
           cases ho
           exact o_fld75_6 (.tmp 21) rfl b (0) (27) rfl (hx9 (hi9 hin 9 21) rfl) ⟨_,rfl,told_of rfl,keepG [15,18] SD2.loc (by omega) (by decide) hJ⟩
         | 11,ho=>
           cases ho
           exact o_load38 (.tmp 22) rfl _ _ (hx9 (hi9 hin 10 22) rfl) (fits_cell (Mm.at (SD2.no2 hJ (ho9 hnot 18)) 0 _ rfl) 27 _ rfl) ⟨_,rfl,told_of rfl,keepG [15,18] SD2.loc (by omega) (by decide) hJ⟩
         | 12,ho=>
           cases ho
           exact o_rest1 (z:=2) (Or.inl ⟨rfl,rfl⟩) (.tmp 23) rfl (some ⟨g1,o1,none⟩) n1 c1 hnc (fun h=>by cases h) hn1 (hx9 (hi9 hin 11 23) rfl) ⟨_,rfl,told_of rfl,keepG [15,18] SD2.loc (by omega) (by decide) hJ⟩
         | 13,ho=>
           cases ho
           exact o_nil (.tmp 12) rfl _ (hx9 (hi9 hin 0 12) rfl) ⟨_,rfl,told_of rfl,keepG [15,18] SD2.loc (by omega) (by decide) hJ⟩
         | 14,ho=>
           cases ho
           exact o_fld75_7 (.tmp 25) rfl b (0) (28) rfl (hx9 (hi9 hin 13 25) rfl) ⟨_,rfl,told_of rfl,keepG [15,18] SD2.loc (by omega) (by decide) hJ⟩
         | 15,ho=>
           cases ho
           exact o_stN row41 (.tmp 26) (.tmp 19) rfl rfl b (28) 0 (x.C) (hx9 (hi9 hin 14 26) rfl) (hx9 (hi9 hin 7 19) rfl) rfl (Wi.one _) (SD2.no hJ hlf) rfl (Nat.le_of_ble_eq_true rfl) (fun W h=>h.handP x) (fun W hM=>⟨undef,rfl,told_no rfl,nextG (by omega) hM⟩)
         | 16,ho=>
           cases ho
           exact o_nil (.tmp 13) rfl _ (hx9 (hi9 hin 1 13) rfl) ⟨_,rfl,told_of rfl,keepG [15,18] SD2.loc (by omega) (by decide) hJ⟩
         | 17,ho=>
           cases ho
           exact o_fld75_6 (.tmp 27) rfl b (0) (27) rfl (hx9 (hi9 hin 16 27) rfl) ⟨_,rfl,told_of rfl,keepG [15,18] SD2.loc (by omega) (by decide) hJ⟩
         | 18,ho=>
           cases ho
           exact o_st1 size38 (.tmp 28) (.tmp 24) rfl rfl b (27) 0 ((restV 2 (some ⟨g1,o1,none⟩) n1 c1 1)) ⟨rfl,rfl⟩ (hx9 (hi9 hin 17 28) rfl) (hx9 (hi9 hin 12 24) rfl) (SD2.no2 hJ hlf) rfl (show 27+1≤_ from Nat.le_of_ble_eq_true rfl) (rfl) (fun W hM=>⟨undef,rfl,told_no rfl,nextG (by omega) hM⟩)
       intro l_ vs4 V4 hl hJ htold
       have t0:vs4 0=P0 b:=told_is _ (htold 0 (by decide)) rfl
       have t1:vs4 1=P0 b:=told_is _ (htold 1 (by decide)) rfl
       have t2:vs4 2=P0 b:=told_is _ (htold 2 (by decide)) rfl
       have t3:vs4 3=P0 b:=told_is _ (htold 3 (by decide)) rfl
       have t4:vs4 4= .pointer (some ⟨b,27,none⟩):=told_is _ (htold 4 (by decide)) rfl
       have t5:vs4 5=(.slice (some ⟨g1,o1,none⟩) n1 c1):=told_is _ (htold 5 (by decide)) rfl
       have t6:vs4 6= .pointer (some ⟨g1,o1,none⟩):=told_is _ (htold 6 (by decide)) rfl
       have t7:vs4 7=aggV x.C:=told_is _ (htold 7 (by decide)) rfl
       have t8:vs4 8=P0 b:=told_is _ (htold 8 (by decide)) rfl
       have t9:vs4 9=P0 b:=told_is _ (htold 9 (by decide)) rfl
       have t10:vs4 10= .pointer (some ⟨b,27,none⟩):=told_is _ (htold 10 (by decide)) rfl
       have t11:vs4 11=(.slice (some ⟨g1,o1,none⟩) n1 c1):=told_is _ (htold 11 (by decide)) rfl
       have t12:vs4 12=(restV 2 (some ⟨g1,o1,none⟩) n1 c1 1):=told_is _ (htold 12 (by decide)) rfl
       have t13:vs4 13=P0 b:=told_is _ (htold 13 (by decide)) rfl
       have t14:vs4 14= .pointer (some ⟨b,28,none⟩):=told_is _ (htold 14 (by decide)) rfl
       have t16:vs4 16=P0 b:=told_is _ (htold 16 (by decide)) rfl
       have t17:vs4 17= .pointer (some ⟨b,27,none⟩):=told_is _ (htold 17 (by decide)) rfl
       rw [show (List.range 19).map vs4= [vs4 0,vs4 1,vs4 2,vs4 3,vs4 4,vs4 5,vs4 6,vs4 7,vs4 8,vs4 9,vs4 10,vs4 11,vs4 12,vs4 13,vs4 14,vs4 15,vs4 16,vs4 17,vs4 18] from rfl]
       simp only [t0,t1,t2,t3,t4,t5,t6,t7,t8,t9,t10,t11,t12,t13,t14,t16,t17,putAll,Act.put,List.setIfInBounds_toArray,List.set_cons_succ,List.set_cons_zero]
       clear t0 t1 t2 t3 t4 t5 t6 t7 t8 t9 t10 t11 t12 t13 t14 t16 t17 htold
       have hM4:Mm [b] wr V4 ([(b,108,({ s1 with hn:=x.n,hk:=x.k } :Lo).C (restV 2 (some ⟨g1,o1,none⟩) n1 c1 1))]):=SD2.yes hJ (hl 15 (by decide)) (hl 18 (by decide))
       replace M:Hid (Mm [b] wr V4 [(b,108,({ s1 with hn:=x.n,hk:=x.k } :Lo).C (restV 2 (some ⟨g1,o1,none⟩) n1 c1 1))]):=hide hM4
       clear hM4 hJ hl
       have c30:V4.cell? ⟨b,30,none⟩=some (.int .i64 s1.op):=fits_cell ((unhide M).at 0 _ rfl) 30 _ rfl
       go_wp2_with (first |(refine wpSt1 size2 rfl (.tmp 35) (.tmp 33) rfl rfl b (30) 0 (.int .i64 (s1.op+1)) (⟨rfl,rfl⟩) rfl rfl (unhide M) rfl (show 30+1≤_ from Nat.le_of_ble_eq_true rfl) (rfl) ?_;intro W11 N11;replace M:Hid (Mm [b] wr W11 [(b,108,(s1.take x).C (restV 2 (some ⟨g1,o1,none⟩) n1 c1 1))]):=hide N11;clear N11;clear c30;have c29:W11.cell? ⟨b,29,none⟩=some (.int .i64 x.k):=fits_cell ((unhide M).at 0 _ rfl) 29 _ rfl;refine Stp.go ?_))
       constructor
       go_wp2_with (first |(refine wpLk rfl (.tmp 37) (.tmp 42) rfl gm x.k f rfl rfl ((unhide HMp).kept (unhide M).kept ((unhide HMp).ne (unhide HB1))) hf ?_;clear c29;refine Stp.go ?_))
       constructor
       go_wp2_with (first |(refine wpCallB rfl f 43 44 rfl rfl b rfl hcf (hcall (s1.take x) (restV 2 (some ⟨g1,o1,none⟩) n1 c1 1) b _ rfl ((unhide M).at 0 _ rfl) (unhide HTk)) ?_;rintro e W12 ⟨xv,rfl,N12,B12,K12⟩;refine⟨xv,rfl,?_⟩;have HO:Hid (Ou wr W12 xv (s1.take x).begin.2):=N12.elder (unhide M).kept.size;replace M:Hid (Mm [b] wr W12 [(b,108,(s1.take x).begin.1.C (restV 2 (some ⟨g1,o1,none⟩) n1 c1 1))]):=hide ((unhide M).mut 0 rfl K12 B12);clear N12 B12 K12;refine Stp.go ?_))
       constructor
       go_wp2_with (first |(refine wpAppN el28 rfl (.tmp 36) (.tmp 45) rfl xo _ _ rfl ((unhide HO1).kept (unhide M).kept (fun k hk=>by have:=(unhide HB0).lt;simp;omega)) xv _ _ rfl (unhide HO).row (odC_one _) (by have:=begin_len (s1.take x);have:=unhide HLe;omega) (max1000 (by have:=begin_len (s1.take x);have:=unhide HLe;omega)) (Nat.le_trans (unhide HK1).size (unhide M).kept.size) ?_;intro v13 W13 N13 K13;have HO3:Hid (Ou w W13 v13 (O1++(s1.take x).begin.2)):=New.app N13;have HX:Hid (∀i∈spare xo,w.heap.size≤i):=(unhide HO1).spare;have HBk:Hid (Blk W13 b 108 ((s1.take x).begin.1.C (restV 2 (some ⟨g1,o1,none⟩) n1 c1 1))):=((unhide M).at 0 _ rfl).kept K13 (fun hi=>by have:=(unhide HO1).spare b hi;have:=(unhide HB0).lt;omega);have HKk:Hid (Kept [b] w W13):=((unhide HK1).trans (unhide M).kept).fresh K13 (fun i hi hl=>by have:=(unhide HO1).spare i hi;omega);have HWk:Hid (Ws W13 (restV 2 (some ⟨g1,o1,none⟩) n1 c1 1) r):=Ws.rest1 ((unhide HW1).kept (unhide M).kept (Rw.ne (unhide HW1) (unhide HB1) (by decide)) |>.kept K13 ((unhide HW1).apart (unhide HO1).row (by decide))) hnr;have HMk:Hid (Mp W13 gm):=((unhide HMp).kept (unhide M).kept ((unhide HMp).ne (unhide HB1))).kept K13 (fun hi=>(unhide HMp).notRow (unhide HO1).row (spare_own hi));clear N13 K13 M;refine Stp.go ?_))
       constructor
       go_wp2_with (first |(go_at_call 72;refine(busy44 (s1.take x).begin.1 (restV 2 (some ⟨g1,o1,none⟩) n1 c1 1) b _ (unhide HBk)).mono ?_;rintro e W14 ⟨rfl,q14⟩;replace q14:=q14.symm;subst q14;rw [unhide HBz];refine Stp.go ?_))
       constructor
       go_wp2_with fail
       try rw [Exit.noGoto_ret]
       go_ret
       refine⟨v13,(restV 2 (some ⟨g1,o1,none⟩) n1 c1 1),rfl,?_,?_,?_,unhide HKk,?_⟩
       · rw [unhide HEq];exact unhide HO3
       · rw [unhide HEq];exact unhide HBk
       · rw [unhide HEq];exact unhide HWk
       · exact unhide HSu
     | false=>
       have HBz:=hide hbz
       have HEq:Hid (nextP s L=((nextP (s1.take x).begin.1 r).1,(nextP (s1.take x).begin.1 r).2.1,(O1++(s1.take x).begin.2)++(nextP (s1.take x).begin.1 r).2.2)):=by
         show _=_
         rw [unhide HEq0,nextP,if_neg (by simp [hbz])]
         simp
       clear hbz HEq0
       go_wp2_with fail
       clear c27
       refine wp_region_any mixed (wpAny_gx 19 rfl (by kernel_rfl) [some (P0 b),some (P0 b),some (P0 b),some (P0 b),some (.pointer (some ⟨b,27,none⟩)),some ((.slice (some ⟨g1,o1,none⟩) n1 c1)),some (.pointer (some ⟨g1,o1,none⟩)),some (aggV x.C),some (P0 b),some (P0 b),some (.pointer (some ⟨b,27,none⟩)),some ((.slice (some ⟨g1,o1,none⟩) n1 c1)),some ((restV 2 (some ⟨g1,o1,none⟩) n1 c1 1)),some (P0 b),some (.pointer (some ⟨b,28,none⟩)),none,some (P0 b),some (.pointer (some ⟨b,27,none⟩)),none] rfl (by kernel_rfl) (fun l vs W=>(SD2 [b] wr (fun d1 d2=> [(b,108,Lo.C { s1 with hn:=cond d1 x.n s1.hn,hk:=cond d1 x.k s1.hk } (cond d2 (restV 2 (some ⟨g1,o1,none⟩) n1 c1 1) (.slice (some ⟨g1,o1,none⟩) n1 c1)))]) 15 18) (fun i=>l.getD i false) vs W) ((unhide M).drew) ?_ ?_)
       · intro ix o' hi ho a' w2 l vs hls hlf hJ hout hin hdep hnot
         match ix,ho with
         | 0,ho=>
           cases ho
           have e0:=ho9 hout 0
           replace e0:a'.eval (.tmp 0)=_:=e0.trans rfl
           exact wp_move (.tmp 0) rfl _ e0 ⟨_,rfl,told_of rfl,keepG [15,18] SD2.loc (by omega) (by decide) hJ⟩
         | 1,ho=>
           cases ho
           have e0:=ho9 hout 0
           replace e0:a'.eval (.tmp 0)=_:=e0.trans rfl
           exact wp_move (.tmp 0) rfl _ e0 ⟨_,rfl,told_of rfl,keepG [15,18] SD2.loc (by omega) (by decide) hJ⟩
         | 2,ho=>
           cases ho
           have e0:=ho9 hout 0
           replace e0:a'.eval (.tmp 0)=_:=e0.trans rfl
           exact wp_move (.tmp 0) rfl _ e0 ⟨_,rfl,told_of rfl,keepG [15,18] SD2.loc (by omega) (by decide) hJ⟩
         | 3,ho=>
           cases ho
           exact o_nil (.tmp 14) rfl _ (hx9 (hi9 hin 2 14) rfl) ⟨_,rfl,told_of rfl,keepG [15,18] SD2.loc (by omega) (by decide) hJ⟩
         | 4,ho=>
           cases ho
           exact o_fld75_6 (.tmp 15) rfl b (0) (27) rfl (hx9 (hi9 hin 3 15) rfl) ⟨_,rfl,told_of rfl,keepG [15,18] SD2.loc (by omega) (by decide) hJ⟩
         | 5,ho=>
           cases ho
           exact o_load38 (.tmp 16) rfl _ _ (hx9 (hi9 hin 4 16) rfl) (fits_cell (Mm.at (SD2.no2 hJ (ho9 hnot 18)) 0 _ rfl) 27 _ rfl) ⟨_,rfl,told_of rfl,keepG [15,18] SD2.loc (by omega) (by decide) hJ⟩
         | 6,ho=>
           cases ho
           exact o_idx38z (.tmp 17) rfl g1 o1 n1 c1 hn1 (hx9 (hi9 hin 5 17) rfl) ⟨_,rfl,told_of rfl,keepG [15,18] SD2.loc (by omega) (by decide) hJ⟩
         | 7,ho=>
           cases ho
           exact wp_loadA row41 (.tmp 18) rfl g1 (o1) (hx9 (hi9 hin 6 18) rfl) (x.C) rfl (Ws.first (Rw.kept (unhide HW1) (Mm.kept hJ) (Rw.ne (unhide HW1) (unhide HB1) (by decide)))) ⟨_,rfl,told_of rfl,keepG [15,18] SD2.loc (by omega) (by decide) hJ⟩
         | 8,ho=>
           cases ho
           have e0:=ho9 hout 0
           replace e0:a'.eval (.tmp 0)=_:=e0.trans rfl
           exact wp_move (.tmp 0) rfl _ e0 ⟨_,rfl,told_of rfl,keepG [15,18] SD2.loc (by omega) (by decide) hJ⟩
         | 9,ho=>
           cases ho
           exact o_nil (.tmp 20) rfl _ (hx9 (hi9 hin 8 20) rfl) ⟨_,rfl,told_of rfl,keepG [15,18] SD2.loc (by omega) (by decide) hJ⟩
         | 10,ho=>
           cases ho
           exact o_fld75_6 (.tmp 21) rfl b (0) (27) rfl (hx9 (hi9 hin 9 21) rfl) ⟨_,rfl,told_of rfl,keepG [15,18] SD2.loc (by omega) (by decide) hJ⟩
         | 11,ho=>
           cases ho
           exact o_load38 (.tmp 22) rfl _ _ (hx9 (hi9 hin 10 22) rfl) (fits_cell (Mm.at (SD2.no2 hJ (ho9 hnot 18)) 0 _ rfl) 27 _ rfl) ⟨_,rfl,told_of rfl,keepG [15,18] SD2.loc (by omega) (by decide) hJ⟩
         | 12,ho=>
           cases ho
           exact o_rest1 (z:=2) (Or.inl ⟨rfl,rfl⟩) (.tmp 23) rfl (some ⟨g1,o1,none⟩) n1 c1 hnc (fun h=>by cases h) hn1 (hx9 (hi9 hin 11 23) rfl) ⟨_,rfl,told_of rfl,keepG [15,18] SD2.loc (by omega) (by decide) hJ⟩
         | 13,ho=>
           cases ho
           exact o_nil (.tmp 12) rfl _ (hx9 (hi9 hin 0 12) rfl) ⟨_,rfl,told_of rfl,keepG [15,18] SD2.loc (by omega) (by decide) hJ⟩
         | 14,ho=>
           cases ho
           exact o_fld75_7 (.tmp 25) rfl b (0) (28) rfl (hx9 (hi9 hin 13 25) rfl) ⟨_,rfl,told_of rfl,keepG [15,18] SD2.loc (by omega) (by decide) hJ⟩
         | 15,ho=>
           cases ho
           exact o_stN row41 (.tmp 26) (.tmp 19) rfl rfl b (28) 0 (x.C) (hx9 (hi9 hin 14 26) rfl) (hx9 (hi9 hin 7 19) rfl) rfl (Wi.one _) (SD2.no hJ hlf) rfl (Nat.le_of_ble_eq_true rfl) (fun W h=>h.handP x) (fun W hM=>⟨undef,rfl,told_no rfl,nextG (by omega) hM⟩)
         | 16,ho=>
           cases ho
           exact o_nil (.tmp 13) rfl _ (hx9 (hi9 hin 1 13) rfl) ⟨_,rfl,told_of rfl,keepG [15,18] SD2.loc (by omega) (by decide) hJ⟩
         | 17,ho=>
           cases ho
           exact o_fld75_6 (.tmp 27) rfl b (0) (27) rfl (hx9 (hi9 hin 16 27) rfl) ⟨_,rfl,told_of rfl,keepG [15,18] SD2.loc (by omega) (by decide) hJ⟩
         | 18,ho=>
           cases ho
           exact o_st1 size38 (.tmp 28) (.tmp 24) rfl rfl b (27) 0 ((restV 2 (some ⟨g1,o1,none⟩) n1 c1 1)) ⟨rfl,rfl⟩ (hx9 (hi9 hin 17 28) rfl) (hx9 (hi9 hin 12 24) rfl) (SD2.no2 hJ hlf) rfl (show 27+1≤_ from Nat.le_of_ble_eq_true rfl) (rfl) (fun W hM=>⟨undef,rfl,told_no rfl,nextG (by omega) hM⟩)
       intro l_ vs4 V4 hl hJ htold
       have t0:vs4 0=P0 b:=told_is _ (htold 0 (by decide)) rfl
       have t1:vs4 1=P0 b:=told_is _ (htold 1 (by decide)) rfl
       have t2:vs4 2=P0 b:=told_is _ (htold 2 (by decide)) rfl
       have t3:vs4 3=P0 b:=told_is _ (htold 3 (by decide)) rfl
       have t4:vs4 4= .pointer (some ⟨b,27,none⟩):=told_is _ (htold 4 (by decide)) rfl
       have t5:vs4 5=(.slice (some ⟨g1,o1,none⟩) n1 c1):=told_is _ (htold 5 (by decide)) rfl
       have t6:vs4 6= .pointer (some ⟨g1,o1,none⟩):=told_is _ (htold 6 (by decide)) rfl
       have t7:vs4 7=aggV x.C:=told_is _ (htold 7 (by decide)) rfl
       have t8:vs4 8=P0 b:=told_is _ (htold 8 (by decide)) rfl
       have t9:vs4 9=P0 b:=told_is _ (htold 9 (by decide)) rfl
       have t10:vs4 10= .pointer (some ⟨b,27,none⟩):=told_is _ (htold 10 (by decide)) rfl
       have t11:vs4 11=(.slice (some ⟨g1,o1,none⟩) n1 c1):=told_is _ (htold 11 (by decide)) rfl
       have t12:vs4 12=(restV 2 (some ⟨g1,o1,none⟩) n1 c1 1):=told_is _ (htold 12 (by decide)) rfl
       have t13:vs4 13=P0 b:=told_is _ (htold 13 (by decide)) rfl
       have t14:vs4 14= .pointer (some ⟨b,28,none⟩):=told_is _ (htold 14 (by decide)) rfl
       have t16:vs4 16=P0 b:=told_is _ (htold 16 (by decide)) rfl
       have t17:vs4 17= .pointer (some ⟨b,27,none⟩):=told_is _ (htold 17 (by decide)) rfl
       rw [show (List.range 19).map vs4= [vs4 0,vs4 1,vs4 2,vs4 3,vs4 4,vs4 5,vs4 6,vs4 7,vs4 8,vs4 9,vs4 10,vs4 11,vs4 12,vs4 13,vs4 14,vs4 15,vs4 16,vs4 17,vs4 18] from rfl]
       simp only [t0,t1,t2,t3,t4,t5,t6,t7,t8,t9,t10,t11,t12,t13,t14,t16,t17,putAll,Act.put,List.setIfInBounds_toArray,List.set_cons_succ,List.set_cons_zero]
       clear t0 t1 t2 t3 t4 t5 t6 t7 t8 t9 t10 t11 t12 t13 t14 t16 t17 htold
       have hM4:Mm [b] wr V4 ([(b,108,({ s1 with hn:=x.n,hk:=x.k } :Lo).C (restV 2 (some ⟨g1,o1,none⟩) n1 c1 1))]):=SD2.yes hJ (hl 15 (by decide)) (hl 18 (by decide))
       replace M:Hid (Mm [b] wr V4 [(b,108,({ s1 with hn:=x.n,hk:=x.k } :Lo).C (restV 2 (some ⟨g1,o1,none⟩) n1 c1 1))]):=hide hM4
       clear hM4 hJ hl
       have c30:V4.cell? ⟨b,30,none⟩=some (.int .i64 s1.op):=fits_cell ((unhide M).at 0 _ rfl) 30 _ rfl
       go_wp2_with (first |(refine wpSt1 size2 rfl (.tmp 35) (.tmp 33) rfl rfl b (30) 0 (.int .i64 (s1.op+1)) (⟨rfl,rfl⟩) rfl rfl (unhide M) rfl (show 30+1≤_ from Nat.le_of_ble_eq_true rfl) (rfl) ?_;intro W11 N11;replace M:Hid (Mm [b] wr W11 [(b,108,(s1.take x).C (restV 2 (some ⟨g1,o1,none⟩) n1 c1 1))]):=hide N11;clear N11;clear c30;have c29:W11.cell? ⟨b,29,none⟩=some (.int .i64 x.k):=fits_cell ((unhide M).at 0 _ rfl) 29 _ rfl;refine Stp.go ?_))
       constructor
       go_wp2_with (first |(refine wpLk rfl (.tmp 37) (.tmp 42) rfl gm x.k f rfl rfl ((unhide HMp).kept (unhide M).kept ((unhide HMp).ne (unhide HB1))) hf ?_;clear c29;refine Stp.go ?_))
       constructor
       go_wp2_with (first |(refine wpCallB rfl f 43 44 rfl rfl b rfl hcf (hcall (s1.take x) (restV 2 (some ⟨g1,o1,none⟩) n1 c1 1) b _ rfl ((unhide M).at 0 _ rfl) (unhide HTk)) ?_;rintro e W12 ⟨xv,rfl,N12,B12,K12⟩;refine⟨xv,rfl,?_⟩;have HO:Hid (Ou wr W12 xv (s1.take x).begin.2):=N12.elder (unhide M).kept.size;replace M:Hid (Mm [b] wr W12 [(b,108,(s1.take x).begin.1.C (restV 2 (some ⟨g1,o1,none⟩) n1 c1 1))]):=hide ((unhide M).mut 0 rfl K12 B12);clear N12 B12 K12;refine Stp.go ?_))
       constructor
       go_wp2_with (first |(refine wpAppN el28 rfl (.tmp 36) (.tmp 45) rfl xo _ _ rfl ((unhide HO1).kept (unhide M).kept (fun k hk=>by have:=(unhide HB0).lt;simp;omega)) xv _ _ rfl (unhide HO).row (odC_one _) (by have:=begin_len (s1.take x);have:=unhide HLe;omega) (max1000 (by have:=begin_len (s1.take x);have:=unhide HLe;omega)) (Nat.le_trans (unhide HK1).size (unhide M).kept.size) ?_;intro v13 W13 N13 K13;have HO3:Hid (Ou w W13 v13 (O1++(s1.take x).begin.2)):=New.app N13;have HX:Hid (∀i∈spare xo,w.heap.size≤i):=(unhide HO1).spare;have HBk:Hid (Blk W13 b 108 ((s1.take x).begin.1.C (restV 2 (some ⟨g1,o1,none⟩) n1 c1 1))):=((unhide M).at 0 _ rfl).kept K13 (fun hi=>by have:=(unhide HO1).spare b hi;have:=(unhide HB0).lt;omega);have HKk:Hid (Kept [b] w W13):=((unhide HK1).trans (unhide M).kept).fresh K13 (fun i hi hl=>by have:=(unhide HO1).spare i hi;omega);have HWk:Hid (Ws W13 (restV 2 (some ⟨g1,o1,none⟩) n1 c1 1) r):=Ws.rest1 ((unhide HW1).kept (unhide M).kept (Rw.ne (unhide HW1) (unhide HB1) (by decide)) |>.kept K13 ((unhide HW1).apart (unhide HO1).row (by decide))) hnr;have HMk:Hid (Mp W13 gm):=((unhide HMp).kept (unhide M).kept ((unhide HMp).ne (unhide HB1))).kept K13 (fun hi=>(unhide HMp).notRow (unhide HO1).row (spare_own hi));clear N13 K13 M;refine Stp.go ?_))
       constructor
       go_wp2_with (first |(go_at_call 72;refine(busy44 (s1.take x).begin.1 (restV 2 (some ⟨g1,o1,none⟩) n1 c1 1) b _ (unhide HBk)).mono ?_;rintro e W14 ⟨rfl,q14⟩;replace q14:=q14.symm;subst q14;rw [unhide HBz];refine Stp.go ?_))
       constructor
       go_wp2_with fail
       go_roundw
       case rel=>exact ⟨(s1.take x).begin.1,_,r,_,O1++(s1.take x).begin.2,rfl,⟨unhide HBk,unhide HWk,unhide HO3,unhide HMk,unhide HKk,unhide HSu,unhide HOk,unhide HAl,unhide HOp.1,unhide HOp.2,by have:=begin_len (s1.take x);have:=unhide HLe;rw [List.length_append];simp at this;omega,unhide HEq⟩⟩
       case measure=>rw [lenAt_is (unhide HBk) (unhide HWk),lenAt_n (unhide HB1)];omega
end Go.Proofs.Ytbigongmlpoahaa
