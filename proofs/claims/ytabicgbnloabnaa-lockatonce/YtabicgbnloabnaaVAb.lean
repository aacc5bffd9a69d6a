import Derived.Test.YtabicgbnloabnaaVAa
namespace Go.Proofs.Ytabicgbnloabnaa
set_option maxRecDepth 100000
set_option linter.unusedSimpArgs false
open Go.RowKit
structure Nk (A:Nat) (base W:World) (z b:Nat) (m o:Nat→Int) (s:Lo) (L:List Wi) (ln:Value):Prop where
 lb:Blk W b 75 (s.C ln)
 lw:Ws W ln L
 gd:Gd A s L
 zb:Blk W z 55 (ndC b m o)
 b0:base.heap.size≤b
 z0:base.heap.size≤z
 l0:∀k,ln.ownBlock=some k→base.heap.size≤k
 kept:Kept [] base W
variable {A B:Nat} {base W W':World} {z b:Nat} {m o m' o':Nat→Int} {s:Lo} {L:List Wi} {ln:Value}
theorem Nk.step (h:Nk A base W z b m o s L ln) (hk:Kept [] W W'):Nk A base W' z b m o s L ln:=⟨h.lb.kept hk (by simp),h.lw.kept hk (by simp),h.gd,h.zb.kept hk (by simp),h.b0,h.z0,h.l0,h.kept.trans hk⟩
theorem Blk.two {W:World} {b T U:Nat} {vs us:List Value} (h:Blk W b T vs) (k:Blk W b U us):T=U:=by
 unfold Blk at h k
 rw [h] at k
 cases k
 rfl
theorem Nk.put (h:Nk A base W z b m o s L ln) (hk:Kept [z] W W') (hB:Blk W' z 55 (ndC b m' o')):Nk A base W' z b m' o' s L ln:=
 ⟨h.lb.kept hk (by intro e;simp at e;subst e;exact absurd (h.lb.two h.zb) (by decide)),h.lw.kept hk (Rw.ne h.lw h.zb (by decide)),h.gd,hB,h.b0,h.z0,h.l0,h.kept.fresh hk (fun i hi hl=>by simp at hi;subst hi;exact absurd h.z0 (Nat.not_le.2 hl))⟩
theorem Nk.far (h:Nk A base W z b m o s L ln) {q T:Nat} {vs:List Value} (hB:Blk W q T vs) (h1:T≠75) (h2:T≠41):q∉b::spare ln:=by
 intro hq
 rcases List.mem_cons.1 hq with rfl | hq
 · exact h1 (hB.two h.lb)
 · exact Rw.ne h.lw hB h2 q (spare_own hq) (by simp)
theorem Nk.call (h:Nk A base W z b m o s L ln) (hA:A≤900) {f:FuncId} {args:Array Value} {r:Lo×List Wi×List Od} (hc:Sd W b ln s L→Calls Try.prog f args W (LC b ln W r)) (hg:Gd B r.1 r.2.1):Calls Try.prog f args W fun e w'=>∃v ln',e= .returned v∧Ou W w' v r.2.2∧Nk B base w' z b m o r.1 r.2.1 ln'∧Kept (b::spare ln) W w':=by
 refine(hc (h.gd.sd hA h.lb h.lw)).mono ?_
 rintro e w' ⟨v,ln',rfl,N,B',R,K,G⟩
 have hsz:=h.kept.size
 refine⟨v,ln',rfl,N,⟨B',R,hg,h.zb.kept K (h.far h.zb (by decide) (by decide)),h.b0,h.z0,fun k hk=> ?_,h.kept.fresh K (fun i hi hl=> ?_)⟩,K⟩
 · rcases G.own k hk with h4 | h4
   · exact h.l0 k h4
   · omega
 · rcases List.mem_cons.1 hi with rfl | hi
   · have:=h.b0;omega
   · have:=h.l0 i (spare_own hi);omega
structure SG (P:World→Prop) (R:World→Value→Prop) (k1 k3:Nat) (d:Nat→Bool) (vs:Nat→Value) (W:World):Prop where
 n1:d k1=false→P W
 n2:d k1=true→R W (vs k1)
 a1:d k3=true→d k1=true∧vs k3=vs k1
theorem SG.loc {P:World→Prop} {R:World→Value→Prop} {k1 k3:Nat} :∀d d' vs vs' W,(∀i∈ [k1,k3],d i=d' i∧vs i=vs' i)→SG P R k1 k3 d vs W→SG P R k1 k3 d' vs' W:=by
 intro d d' vs vs' W H h
 obtain⟨a1,c1⟩:=H k1 (by simp)
 obtain⟨a2,c2⟩:=H k3 (by simp)
 exact⟨by rw [← a1];exact h.n1,by rw [← a1,← c1];exact h.n2,by rw [← a1,← a2,← c1,← c2];exact h.a1⟩
theorem SG.call {P:World→Prop} {R:World→Value→Prop} {k1 k3:Nat} {d:Nat→Bool} {vs:Nat→Value} {W W':World} {v:Value} (_h:SG P R k1 k3 d vs W) (hne:k3≠k1) (h3:d k3=false) (hR:R W' v):SG P R k1 k3 (fun i=>if i=k1 then true else d i) (fun i=>if i=k1 then v else vs i) W':=
 ⟨fun e=>by simp at e,fun _=>by simpa using hR,fun e=>by simp [hne,h3] at e⟩
theorem SG.as (P:World→Prop) (R:World→Value→Prop) {k1 k3:Nat} {d:Nat→Bool} {vs:Nat→Value} {W:World} (h:SG P R k1 k3 d vs W) (hne:k1≠k3) (h1:d k1=true):SG P R k1 k3 (fun i=>if i=k3 then true else d i) (fun i=>if i=k3 then vs k1 else vs i) W:=by
 refine⟨?_,?_,fun _=> ?_⟩
 · simp only [if_neg hne];exact h.n1
 · simp only [if_neg hne];exact h.n2
 · simp only [if_neg hne,if_true];exact⟨h1,trivial⟩
theorem cg29 (vs:Array Value) (w:World):(callFunc 29 vs).run Try.prog w= .ok (.enter 29 vs) w:=by kernel_rfl
theorem cg30 (vs:Array Value) (w:World):(callFunc 30 vs).run Try.prog w= .ok (.enter 30 vs) w:=by kernel_rfl
theorem cg31 (vs:Array Value) (w:World):(callFunc 31 vs).run Try.prog w= .ok (.enter 31 vs) w:=by kernel_rfl
theorem cg56 (vs:Array Value) (w:World):(callFunc 56 vs).run Try.prog w= .ok (.enter 56 vs) w:=by kernel_rfl
def PG (A:Nat) (base w:World) (z b b3:Nat) (m o:Nat→Int) (s:Lo) (L:List Wi) (ln:Value) (x:Od) (W:World):Prop:=Kept [z] w W∧Blk W b3 65 x.C∧Nk A base W z b m o s L ln
def RG (A:Nat) (base w:World) (z b b3:Nat) (m o:Nat→Int) (ln:Value) (r:Lo×List Wi×List Od) (x:Od) (W:World) (v:Value):Prop:=Kept (z::b::spare ln) w W∧Blk W b3 65 x.C∧∃ln',Ou w W v r.2.2∧Nk A base W z b m o r.1 r.2.1 ln'
theorem SG.b3 {A B:Nat} {base w:World} {z b b3:Nat} {m o:Nat→Int} {s:Lo} {L:List Wi} {ln:Value} {x:Od} {r:Lo×List Wi×List Od} {k1 k3:Nat} {d:Nat→Bool} {vs:Nat→Value} {W:World} (h:SG (PG A base w z b b3 m o s L ln x) (RG B base w z b b3 m o ln r x) k1 k3 d vs W):Blk W b3 65 x.C∧Blk W z 55 (ndC b m o):=by
 cases hd:d k1 with
 | false=>exact ⟨(h.n1 hd).2.1,(h.n1 hd).2.2.zb⟩
 | true=>obtain ⟨_,h1,ln',_,h2⟩:=h.n2 hd;exact⟨h1,h2.zb⟩
@[reducible] def DN (A:Nat) (base w:World) (z b:Nat) (ln:Value) (m o:Nat→Int) (r:Lo×List Wi×List Od) (ok:Bool) (e:Ending) (w':World):Prop:=∃v ln',e= .returned (.tuple #[v,.bool ok])∧Ou w w' v r.2.2∧Nk A base w' z b m o r.1 r.2.1 ln'∧Kept (z::b::spare ln) w w'
set_option maxHeartbeats 8000000 in
theorem does23_1 (t n:Nat) (c d p:Int) (ht:t<8) (hn:n<8) (w:World) (h:Nk A base w z b m o s L ln) (hA:A≤800):Calls Try.prog 23 #[P0 z,aggV (Od.C (⟨1,t,c,d,n,p⟩:Od))] w (DN (A+1) base w z b ln (upd m t d) (upd o t c) (gotP s L t c) (rightB (upd m t d))):=by
 have M:=hide (Mm.one h.zb)
 have HN:=hide h
 have htI:(t:Int)<8:=by omega
 have hnI:(n:Int)<8:=by omega
 have q1:decide ((t:Int)<0)=false:=by simp
 have q2:decide ((t:Int)≥8)=false:=by simp;omega
 have q3:decide ((8:Int)≤(t:Int))=false:=by simp;omega
 have q4:decide ((n:Int)<0)=false:=by simp
 have q5:decide ((n:Int)≥8)=false:=by simp;omega
 have q6:decide ((8:Int)≤(n:Int))=false:=by simp;omega
 clear h
 go_enter Try.func23,Try.ntmps23
 go_wp2_with (first |(refine wpBoxV rfl (.tmp 1) rfl (Od.C (⟨1,t,c,d,n,p⟩:Od)) rfl ?_;intro W1 b3 e1 B1 K1;replace M:=hide ((unhide M).new e1 B1 K1);clear e1 B1 K1;have c0:W1.cell? ⟨b3,0,none⟩=some (.int .i64 1):=fits_cell ((unhide M).at 1 _ rfl) 0 _ rfl;have c1:W1.cell? ⟨b3,1,none⟩=some (.int .i64 t):=fits_cell ((unhide M).at 1 _ rfl) 1 _ rfl;have c4:W1.cell? ⟨b3,4,none⟩=some (.int .i64 n):=fits_cell ((unhide M).at 1 _ rfl) 4 _ rfl;refine Stp.go ?_))
 constructor
 go_wp2_with fail
 clear c0 c1 c4
 refine wp_region_any mixed (wpAny_gx 18 rfl (by kernel_rfl) [some (P0 z),some (.pointer (some ⟨b3,1,none⟩)),some (.int .i64 t),some (P0 z),some (.pointer (some ⟨b3,1,none⟩)),some (.int .i64 t),some (.pointer (some ⟨b3,3,none⟩)),some (.int .i64 d),some (.pointer (some ⟨b3,2,none⟩)),some (.int .i64 c),some (P0 z),some (.pointer (some ⟨z,1,none⟩)),some (.pointer (some ⟨z,1+t,none⟩)),none,some (P0 z),some (.pointer (some ⟨z,9,none⟩)),some (.pointer (some ⟨z,9+t,none⟩)),none] rfl (by kernel_rfl) (fun l vs W=>(SD2 [z] w (fun d1 d2=> [(z,55,ndC b (cond d1 (upd m t d) m) (cond d2 (upd o t c) o)),(b3,65,Od.C (⟨1,t,c,d,n,p⟩:Od))]) 13 17) (fun i=>l.getD i false) vs W) ((unhide M).drew) ?_ ?_)
 · intro ix o' hi ho a' w2 l vs hls hlf hJ hout hin hdep hnot
   match ix,ho with
   | 0,ho=>
     obtain rfl:=Oj9 ho
     have e0:=hout 0 (by kernel_rfl)
     replace e0:a'.eval (.tmp 0)=_:=e0.trans rfl
     exact wp_move (.tmp 0) rfl _ e0 ⟨_,rfl,told_of rfl,keepG [13,17] SD2.loc (by omega) (by decide) hJ⟩
   | 1,ho=>
     obtain rfl:=Oj9 ho
     have e0:=hout 3 (by kernel_rfl)
     replace e0:a'.eval (.tmp 3)=_:=e0.trans rfl
     exact o_fld65_1 (.tmp 3) rfl b3 (0) (1) rfl e0 ⟨_,rfl,told_of rfl,keepG [13,17] SD2.loc (by omega) (by decide) hJ⟩
   | 2,ho=>
     obtain rfl:=Oj9 ho
     have e0:a'.eval (.tmp 29)= .pointer (some ⟨b3,1,none⟩):=by have h9:=hin 1 29 (by kernel_rfl) (by kernel_rfl);exact h9.1.trans (told_is _ h9.2 rfl)
     exact o_load3 (.tmp 29) rfl _ _ e0 (fits_cell (Mm.at hJ 1 _ rfl) 1 _ rfl) ⟨_,rfl,told_of rfl,keepG [13,17] SD2.loc (by omega) (by decide) hJ⟩
   | 3,ho=>
     obtain rfl:=Oj9 ho
     have e0:=hout 0 (by kernel_rfl)
     replace e0:a'.eval (.tmp 0)=_:=e0.trans rfl
     exact wp_move (.tmp 0) rfl _ e0 ⟨_,rfl,told_of rfl,keepG [13,17] SD2.loc (by omega) (by decide) hJ⟩
   | 4,ho=>
     obtain rfl:=Oj9 ho
     have e0:=hout 3 (by kernel_rfl)
     replace e0:a'.eval (.tmp 3)=_:=e0.trans rfl
     exact o_fld65_1 (.tmp 3) rfl b3 (0) (1) rfl e0 ⟨_,rfl,told_of rfl,keepG [13,17] SD2.loc (by omega) (by decide) hJ⟩
   | 5,ho=>
     obtain rfl:=Oj9 ho
     have e0:a'.eval (.tmp 32)= .pointer (some ⟨b3,1,none⟩):=by have h9:=hin 4 32 (by kernel_rfl) (by kernel_rfl);exact h9.1.trans (told_is _ h9.2 rfl)
     exact o_load3 (.tmp 32) rfl _ _ e0 (fits_cell (Mm.at hJ 1 _ rfl) 1 _ rfl) ⟨_,rfl,told_of rfl,keepG [13,17] SD2.loc (by omega) (by decide) hJ⟩
   | 6,ho=>
     obtain rfl:=Oj9 ho
     have e0:=hout 3 (by kernel_rfl)
     replace e0:a'.eval (.tmp 3)=_:=e0.trans rfl
     exact o_fld65_3 (.tmp 3) rfl b3 (0) (3) rfl e0 ⟨_,rfl,told_of rfl,keepG [13,17] SD2.loc (by omega) (by decide) hJ⟩
   | 7,ho=>
     obtain rfl:=Oj9 ho
     have e0:a'.eval (.tmp 34)= .pointer (some ⟨b3,3,none⟩):=by have h9:=hin 6 34 (by kernel_rfl) (by kernel_rfl);exact h9.1.trans (told_is _ h9.2 rfl)
     exact o_load31 (.tmp 34) rfl _ _ e0 (fits_cell (Mm.at hJ 1 _ rfl) 3 _ rfl) ⟨_,rfl,told_of rfl,keepG [13,17] SD2.loc (by omega) (by decide) hJ⟩
   | 8,ho=>
     obtain rfl:=Oj9 ho
     have e0:=hout 3 (by kernel_rfl)
     replace e0:a'.eval (.tmp 3)=_:=e0.trans rfl
     exact o_fld65_2 (.tmp 3) rfl b3 (0) (2) rfl e0 ⟨_,rfl,told_of rfl,keepG [13,17] SD2.loc (by omega) (by decide) hJ⟩
   | 9,ho=>
     obtain rfl:=Oj9 ho
     have e0:a'.eval (.tmp 36)= .pointer (some ⟨b3,2,none⟩):=by have h9:=hin 8 36 (by kernel_rfl) (by kernel_rfl);exact h9.1.trans (told_is _ h9.2 rfl)
     exact o_load2 (.tmp 36) rfl _ _ e0 (fits_cell (Mm.at hJ 1 _ rfl) 2 _ rfl) ⟨_,rfl,told_of rfl,keepG [13,17] SD2.loc (by omega) (by decide) hJ⟩
   | 10,ho=>
     obtain rfl:=Oj9 ho
     have e0:a'.eval (.tmp 28)=P0 z:=by have h9:=hin 0 28 (by kernel_rfl) (by kernel_rfl);exact h9.1.trans (told_is _ h9.2 rfl)
     exact o_nil (.tmp 28) rfl _ e0 ⟨_,rfl,told_of rfl,keepG [13,17] SD2.loc (by omega) (by decide) hJ⟩
   | 11,ho=>
     obtain rfl:=Oj9 ho
     have e0:a'.eval (.tmp 38)=P0 z:=by have h9:=hin 10 38 (by kernel_rfl) (by kernel_rfl);exact h9.1.trans (told_is _ h9.2 rfl)
     exact o_fld55_1 (.tmp 38) rfl z (0) (1) rfl e0 ⟨_,rfl,told_of rfl,keepG [13,17] SD2.loc (by omega) (by decide) hJ⟩
   | 12,ho=>
     obtain rfl:=Oj9 ho
     have e0:a'.eval (.tmp 39)= .pointer (some ⟨z,1,none⟩):=by have h9:=hin 11 39 (by kernel_rfl) (by kernel_rfl);exact h9.1.trans (told_is _ h9.2 rfl)
     have e1:a'.eval (.tmp 30)= .int .i64 t:=by have h9:=hin 2 30 (by kernel_rfl) (by kernel_rfl);exact h9.1.trans (told_is _ h9.2 rfl)
     exact o_idx53 (.tmp 39) (.tmp 30) rfl z (1) t (1+t) (by assumption) rfl e0 e1 ⟨_,rfl,told_of rfl,keepG [13,17] SD2.loc (by omega) (by decide) hJ⟩
   | 13,ho=>
     obtain rfl:=Oj9 ho
     have e0:a'.eval (.tmp 40)= .pointer (some ⟨z,1+t,none⟩):=by have h9:=hin 12 40 (by kernel_rfl) (by kernel_rfl);exact h9.1.trans (told_is _ h9.2 rfl)
     have e1:a'.eval (.tmp 35)= .int .i64 d:=by have h9:=hin 7 35 (by kernel_rfl) (by kernel_rfl);exact h9.1.trans (told_is _ h9.2 rfl)
     exact o_st1 size31 (.tmp 40) (.tmp 35) rfl rfl z (1+t) 0 (.int .i64 d) ⟨rfl,rfl⟩ e0 e1 (SD2.no hJ hlf) rfl (by show 1+t<17;omega) (nd_setM b _ _ t (by assumption) _) (fun W hM=>⟨undef,rfl,told_no rfl,nextG (by omega) hM⟩)
   | 14,ho=>
     obtain rfl:=Oj9 ho
     have e0:a'.eval (.tmp 31)=P0 z:=by have h9:=hin 3 31 (by kernel_rfl) (by kernel_rfl);exact h9.1.trans (told_is _ h9.2 rfl)
     exact o_nil (.tmp 31) rfl _ e0 ⟨_,rfl,told_of rfl,keepG [13,17] SD2.loc (by omega) (by decide) hJ⟩
   | 15,ho=>
     obtain rfl:=Oj9 ho
     have e0:a'.eval (.tmp 41)=P0 z:=by have h9:=hin 14 41 (by kernel_rfl) (by kernel_rfl);exact h9.1.trans (told_is _ h9.2 rfl)
     exact o_fld55_2 (.tmp 41) rfl z (0) (9) rfl e0 ⟨_,rfl,told_of rfl,keepG [13,17] SD2.loc (by omega) (by decide) hJ⟩
   | 16,ho=>
     obtain rfl:=Oj9 ho
     have e0:a'.eval (.tmp 42)= .pointer (some ⟨z,9,none⟩):=by have h9:=hin 15 42 (by kernel_rfl) (by kernel_rfl);exact h9.1.trans (told_is _ h9.2 rfl)
     have e1:a'.eval (.tmp 33)= .int .i64 t:=by have h9:=hin 5 33 (by kernel_rfl) (by kernel_rfl);exact h9.1.trans (told_is _ h9.2 rfl)
     exact o_idx37 (.tmp 42) (.tmp 33) rfl z (9) t (9+t) (by assumption) rfl e0 e1 ⟨_,rfl,told_of rfl,keepG [13,17] SD2.loc (by omega) (by decide) hJ⟩
   | 17,ho=>
     obtain rfl:=Oj9 ho
     have e0:a'.eval (.tmp 43)= .pointer (some ⟨z,9+t,none⟩):=by have h9:=hin 16 43 (by kernel_rfl) (by kernel_rfl);exact h9.1.trans (told_is _ h9.2 rfl)
     have e1:a'.eval (.tmp 37)= .int .i64 c:=by have h9:=hin 9 37 (by kernel_rfl) (by kernel_rfl);exact h9.1.trans (told_is _ h9.2 rfl)
     exact o_st1 size2 (.tmp 43) (.tmp 37) rfl rfl z (9+t) 0 (.int .i64 c) ⟨rfl,rfl⟩ e0 e1 (SD2.no2 hJ hlf) rfl (by show 9+t<17;omega) (nd_setO b _ _ t (by assumption) _) (fun W hM=>⟨undef,rfl,told_no rfl,nextG (by omega) hM⟩)
 intro l_ vs4 V2 hl hJ htold
 have t0:vs4 0=P0 z:=told_is _ (htold 0 (by decide)) rfl
 have t1:vs4 1= .pointer (some ⟨b3,1,none⟩):=told_is _ (htold 1 (by decide)) rfl
 have t2:vs4 2= .int .i64 t:=told_is _ (htold 2 (by decide)) rfl
 have t3:vs4 3=P0 z:=told_is _ (htold 3 (by decide)) rfl
 have t4:vs4 4= .pointer (some ⟨b3,1,none⟩):=told_is _ (htold 4 (by decide)) rfl
 have t5:vs4 5= .int .i64 t:=told_is _ (htold 5 (by decide)) rfl
 have t6:vs4 6= .pointer (some ⟨b3,3,none⟩):=told_is _ (htold 6 (by decide)) rfl
 have t7:vs4 7= .int .i64 d:=told_is _ (htold 7 (by decide)) rfl
 have t8:vs4 8= .pointer (some ⟨b3,2,none⟩):=told_is _ (htold 8 (by decide)) rfl
 have t9:vs4 9= .int .i64 c:=told_is _ (htold 9 (by decide)) rfl
 have t10:vs4 10=P0 z:=told_is _ (htold 10 (by decide)) rfl
 have t11:vs4 11= .pointer (some ⟨z,1,none⟩):=told_is _ (htold 11 (by decide)) rfl
 have t12:vs4 12= .pointer (some ⟨z,1+t,none⟩):=told_is _ (htold 12 (by decide)) rfl
 have t14:vs4 14=P0 z:=told_is _ (htold 14 (by decide)) rfl
 have t15:vs4 15= .pointer (some ⟨z,9,none⟩):=told_is _ (htold 15 (by decide)) rfl
 have t16:vs4 16= .pointer (some ⟨z,9+t,none⟩):=told_is _ (htold 16 (by decide)) rfl
 rw [show (List.range 18).map vs4= [vs4 0,vs4 1,vs4 2,vs4 3,vs4 4,vs4 5,vs4 6,vs4 7,vs4 8,vs4 9,vs4 10,vs4 11,vs4 12,vs4 13,vs4 14,vs4 15,vs4 16,vs4 17] from rfl]
 simp only [t0,t1,t2,t3,t4,t5,t6,t7,t8,t9,t10,t11,t12,t14,t15,t16,putAll,Act.put,List.setIfInBounds_toArray,List.set_cons_succ,List.set_cons_zero]
 clear t0 t1 t2 t3 t4 t5 t6 t7 t8 t9 t10 t11 t12 t14 t15 t16 htold
 have hM4:Mm [z] w V2 ([(z,55,ndC b (upd m t d) (upd o t c)),(b3,65,Od.C (⟨1,t,c,d,n,p⟩:Od))]):=SD2.yes hJ (hl 13 (by decide)) (hl 17 (by decide))
 replace M:Hid (Mm [z] w V2 [(z,55,ndC b (upd m t d) (upd o t c)),(b3,65,Od.C (⟨1,t,c,d,n,p⟩:Od))]):=hide hM4
 clear hM4 hJ hl
 go_wp2_with fail
 have hP:PG A base w z b b3 (upd m t d) (upd o t c) s L ln (⟨1,t,c,d,n,p⟩:Od) V2:=⟨(unhide M).kept,(unhide M).at 1 _ rfl,(unhide HN).put (unhide M).kept ((unhide M).at 0 _ rfl)⟩
 clear M HN
 have HP:=hide hP
 clear hP
 refine wp_region_any mixed (wpAny_gx 13 rfl (by kernel_rfl) [some (P0 z),some (P0 z),some (P0 z),some (P0 b),some (.pointer (some ⟨b3,1,none⟩)),some (.int .i64 t),some (.pointer (some ⟨b3,2,none⟩)),some (.int .i64 c),none,some (P0 z),some (.bool (rightB (upd m t d))),none,some (.bool (rightB (upd m t d)))] rfl (by kernel_rfl) (fun l vs W=>(SG (PG A base w z b b3 (upd m t d) (upd o t c) s L ln (⟨1,t,c,d,n,p⟩:Od)) (RG (A+1) base w z b b3 (upd m t d) (upd o t c) ln (gotP s L t c) (⟨1,t,c,d,n,p⟩:Od)) 8 11) (fun i=>l.getD i false) vs W) (⟨fun _=>⟨(unhide HP).1.drew,(unhide HP).2.1.drew,(unhide HP).2.2.step (Kept.refl [] _).drew⟩,(fun h=>by cases h),fun h=>by cases h⟩) ?_ ?_)
 · intro ix o' hi ho a' w2 l vs hls hlf hJ hout hin hdep hnot
   match ix,ho with
   | 0,ho=>
     obtain rfl:=Oj9 ho
     have e0:=hout 0 (by kernel_rfl)
     replace e0:a'.eval (.tmp 0)=_:=e0.trans rfl
     exact wp_move (.tmp 0) rfl _ e0 ⟨_,rfl,told_of rfl,keepG [8,11] SG.loc (by omega) (by decide) hJ⟩
   | 1,ho=>
     obtain rfl:=Oj9 ho
     have e0:a'.eval (.tmp 44)=P0 z:=by have h9:=hin 0 44 (by kernel_rfl) (by kernel_rfl);exact h9.1.trans (told_is _ h9.2 rfl)
     exact o_nil (.tmp 44) rfl _ e0 ⟨_,rfl,told_of rfl,keepG [8,11] SG.loc (by omega) (by decide) hJ⟩
   | 2,ho=>
     obtain rfl:=Oj9 ho
     have e0:a'.eval (.tmp 45)=P0 z:=by have h9:=hin 1 45 (by kernel_rfl) (by kernel_rfl);exact h9.1.trans (told_is _ h9.2 rfl)
     exact o_fld55_0 (.tmp 45) rfl z (0) (0) rfl e0 ⟨_,rfl,told_of rfl,keepG [8,11] SG.loc (by omega) (by decide) hJ⟩
   | 3,ho=>
     obtain rfl:=Oj9 ho
     have e0:a'.eval (.tmp 46)=P0 z:=by have h9:=hin 2 46 (by kernel_rfl) (by kernel_rfl);exact h9.1.trans (told_is _ h9.2 rfl)
     exact o_load24 (.tmp 46) rfl _ _ e0 (fits_cell hJ.b3.2 0 _ rfl) ⟨_,rfl,told_of rfl,keepG [8,11] SG.loc (by omega) (by decide) hJ⟩
   | 4,ho=>
     obtain rfl:=Oj9 ho
     have e0:=hout 3 (by kernel_rfl)
     replace e0:a'.eval (.tmp 3)=_:=e0.trans rfl
     exact o_fld65_1 (.tmp 3) rfl b3 (0) (1) rfl e0 ⟨_,rfl,told_of rfl,keepG [8,11] SG.loc (by omega) (by decide) hJ⟩
   | 5,ho=>
     obtain rfl:=Oj9 ho
     have e0:a'.eval (.tmp 48)= .pointer (some ⟨b3,1,none⟩):=by have h9:=hin 4 48 (by kernel_rfl) (by kernel_rfl);exact h9.1.trans (told_is _ h9.2 rfl)
     exact o_load3 (.tmp 48) rfl _ _ e0 (fits_cell hJ.b3.1 1 _ rfl) ⟨_,rfl,told_of rfl,keepG [8,11] SG.loc (by omega) (by decide) hJ⟩
   | 6,ho=>
     obtain rfl:=Oj9 ho
     have e0:=hout 3 (by kernel_rfl)
     replace e0:a'.eval (.tmp 3)=_:=e0.trans rfl
     exact o_fld65_2 (.tmp 3) rfl b3 (0) (2) rfl e0 ⟨_,rfl,told_of rfl,keepG [8,11] SG.loc (by omega) (by decide) hJ⟩
   | 7,ho=>
     obtain rfl:=Oj9 ho
     have e0:a'.eval (.tmp 50)= .pointer (some ⟨b3,2,none⟩):=by have h9:=hin 6 50 (by kernel_rfl) (by kernel_rfl);exact h9.1.trans (told_is _ h9.2 rfl)
     exact o_load2 (.tmp 50) rfl _ _ e0 (fits_cell hJ.b3.1 2 _ rfl) ⟨_,rfl,told_of rfl,keepG [8,11] SG.loc (by omega) (by decide) hJ⟩
   | 8,ho=>
     obtain rfl:=Oj9 ho
     have e0:a'.eval (.tmp 47)=P0 b:=by have h9:=hin 3 47 (by kernel_rfl) (by kernel_rfl);exact h9.1.trans (told_is _ h9.2 rfl)
     have e1:a'.eval (.tmp 49)= .int .i64 t:=by have h9:=hin 5 49 (by kernel_rfl) (by kernel_rfl);exact h9.1.trans (told_is _ h9.2 rfl)
     have e2:a'.eval (.tmp 51)= .int .i64 c:=by have h9:=hin 7 51 (by kernel_rfl) (by kernel_rfl);exact h9.1.trans (told_is _ h9.2 rfl)
     have hP9:=hJ.n1 hlf
     refine wp_callF 29 _ _ rfl #[P0 b,.int .i64 t,.int .i64 c] (by simp [e0,e1,e2]) (cg29 _ _) ((Nk.call hP9.2.2 (by omega) (fun hs=>got29 s ln b L t c _ hs) (got_gd hP9.2.2.gd)).mono ?_)
     rintro e w3 ⟨v3,ln3,rfl,N3,hN3,K3⟩
     exact⟨_,rfl,_,rfl,told_no rfl,nextG (by omega) (SG.call hJ (by decide) (hnot 11 (by kernel_rfl)) ⟨(hP9.1.mono (by simp)).trans (K3.mono (fun k hk=>List.mem_cons_of_mem _ hk)),hP9.2.1.kept K3 (hP9.2.2.far hP9.2.1 (by decide) (by decide)),ln3,New.elder N3 hP9.1.size,hN3⟩)⟩
   | 9,ho=>
     obtain rfl:=Oj9 ho
     have e0:=hout 0 (by kernel_rfl)
     replace e0:a'.eval (.tmp 0)=_:=e0.trans rfl
     exact wp_move (.tmp 0) rfl _ e0 ⟨_,rfl,told_of rfl,keepG [8,11] SG.loc (by omega) (by decide) hJ⟩
   | 10,ho=>
     obtain rfl:=Oj9 ho
     have e0:a'.eval (.tmp 53)=P0 z:=by have h9:=hin 9 53 (by kernel_rfl) (by kernel_rfl);exact h9.1.trans (told_is _ h9.2 rfl)
     refine wp_callF 56 _ _ rfl #[P0 z] (by simp [e0]) (cg56 _ _) ((right56 z b _ _ _ hJ.b3.2).mono ?_)
     rintro e w3 ⟨rfl,q3⟩
     replace q3:=q3.symm
     subst q3
     exact⟨_,rfl,_,rfl,told_of rfl,keepG [8,11] SG.loc (by omega) (by decide) hJ⟩
   | 11,ho=>
     obtain rfl:=Oj9 ho
     have e0:a'.eval (.tmp 52)=vs 8:=(hin 8 52 (by kernel_rfl) (by kernel_rfl)).1
     exact wp_assignV (.tmp 52) rfl _ e0 ⟨_,rfl,told_no rfl,nextG (by omega) (SG.as _ _ hJ (by decide) (hdep 8 (by kernel_rfl)))⟩
   | 12,ho=>
     obtain rfl:=Oj9 ho
     have e0:a'.eval (.tmp 54)= .bool (rightB (upd m t d)):=by have h9:=hin 10 54 (by kernel_rfl) (by kernel_rfl);exact h9.1.trans (told_is _ h9.2 rfl)
     exact wp_assignV (.tmp 54) rfl _ e0 ⟨_,rfl,told_of rfl,keepG [8,11] SG.loc (by omega) (by decide) hJ⟩
 intro l_ vs4 V9 hl hJ htold
 have t0:vs4 0=P0 z:=told_is _ (htold 0 (by decide)) rfl
 have t1:vs4 1=P0 z:=told_is _ (htold 1 (by decide)) rfl
 have t2:vs4 2=P0 z:=told_is _ (htold 2 (by decide)) rfl
 have t3:vs4 3=P0 b:=told_is _ (htold 3 (by decide)) rfl
 have t4:vs4 4= .pointer (some ⟨b3,1,none⟩):=told_is _ (htold 4 (by decide)) rfl
 have t5:vs4 5= .int .i64 t:=told_is _ (htold 5 (by decide)) rfl
 have t6:vs4 6= .pointer (some ⟨b3,2,none⟩):=told_is _ (htold 6 (by decide)) rfl
 have t7:vs4 7= .int .i64 c:=told_is _ (htold 7 (by decide)) rfl
 have t9:vs4 9=P0 z:=told_is _ (htold 9 (by decide)) rfl
 have t10:vs4 10= .bool (rightB (upd m t d)):=told_is _ (htold 10 (by decide)) rfl
 have t12:vs4 12= .bool (rightB (upd m t d)):=told_is _ (htold 12 (by decide)) rfl
 rw [show (List.range 13).map vs4= [vs4 0,vs4 1,vs4 2,vs4 3,vs4 4,vs4 5,vs4 6,vs4 7,vs4 8,vs4 9,vs4 10,vs4 11,vs4 12] from rfl]
 simp only [t0,t1,t2,t3,t4,t5,t6,t7,t9,t10,t12,putAll,Act.put,List.setIfInBounds_toArray,List.set_cons_succ,List.set_cons_zero]
 clear t0 t1 t2 t3 t4 t5 t6 t7 t9 t10 t12 htold
 obtain⟨hk9,_,ln9,hO9,hN9⟩:=hJ.n2 (hl 8 (by decide))
 obtain⟨_,e9⟩:=hJ.a1 (hl 11 (by decide))
 rw [e9]
 generalize vs4 8=v9 at hO9⊢
 have HO9:=hide hO9
 have HN9:=hide hN9
 have HK9:=hide hk9
 clear hO9 hN9 hk9 e9 hJ hl HP
 go_wp2_with fail
 go_ret2
 exact⟨v9,ln9,rfl,unhide HO9,unhide HN9,unhide HK9⟩
set_option maxHeartbeats 8000000 in
theorem does23_2 (t n:Nat) (c d p:Int) (ht:t<8) (hn:n<8) (w:World) (h:Nk A base w z b m o s L ln) (hA:A≤800):Calls Try.prog 23 #[P0 z,aggV (Od.C (⟨2,t,c,d,n,p⟩:Od))] w (DN (A+1) base w z b ln (upd (upd m t 1) n 1) (upd (upd o t c) n c) (gotP s L n c) (rightB (upd (upd m t 1) n 1))):=by
 have M:=hide (Mm.one h.zb)
 have HN:=hide h
 have htI:(t:Int)<8:=by omega
 have hnI:(n:Int)<8:=by omega
 have q1:decide ((t:Int)<0)=false:=by simp
 have q2:decide ((t:Int)≥8)=false:=by simp;omega
 have q3:decide ((8:Int)≤(t:Int))=false:=by simp;omega
 have q4:decide ((n:Int)<0)=false:=by simp
 have q5:decide ((n:Int)≥8)=false:=by simp;omega
 have q6:decide ((8:Int)≤(n:Int))=false:=by simp;omega
 clear h
 go_enter Try.func23,Try.ntmps23
 go_wp2_with (first |(refine wpBoxV rfl (.tmp 1) rfl (Od.C (⟨2,t,c,d,n,p⟩:Od)) rfl ?_;intro W1 b3 e1 B1 K1;replace M:=hide ((unhide M).new e1 B1 K1);clear e1 B1 K1;have c0:W1.cell? ⟨b3,0,none⟩=some (.int .i64 2):=fits_cell ((unhide M).at 1 _ rfl) 0 _ rfl;have c1:W1.cell? ⟨b3,1,none⟩=some (.int .i64 t):=fits_cell ((unhide M).at 1 _ rfl) 1 _ rfl;have c4:W1.cell? ⟨b3,4,none⟩=some (.int .i64 n):=fits_cell ((unhide M).at 1 _ rfl) 4 _ rfl;refine Stp.go ?_))
 constructor
 go_wp2_with fail
 clear c0 c1 c4
 refine wp_region_any mixed (wpAny_gx 16 rfl (by kernel_rfl) [some (P0 z),some (.pointer (some ⟨b3,1,none⟩)),some (.int .i64 t),some (P0 z),some (.pointer (some ⟨b3,1,none⟩)),some (.int .i64 t),some (.pointer (some ⟨b3,2,none⟩)),some (.int .i64 c),some (P0 z),some (.pointer (some ⟨z,1,none⟩)),some (.pointer (some ⟨z,1+t,none⟩)),none,some (P0 z),some (.pointer (some ⟨z,9,none⟩)),some (.pointer (some ⟨z,9+t,none⟩)),none] rfl (by kernel_rfl) (fun l vs W=>(SD2 [z] w (fun d1 d2=> [(z,55,ndC b (cond d1 (upd m t 1) m) (cond d2 (upd o t c) o)),(b3,65,Od.C (⟨2,t,c,d,n,p⟩:Od))]) 11 15) (fun i=>l.getD i false) vs W) ((unhide M).drew) ?_ ?_)
 · intro ix o' hi ho a' w2 l vs hls hlf hJ hout hin hdep hnot
   match ix,ho with
   | 0,ho=>
     obtain rfl:=Oj9 ho
     have e0:=hout 0 (by kernel_rfl)
     replace e0:a'.eval (.tmp 0)=_:=e0.trans rfl
     exact wp_move (.tmp 0) rfl _ e0 ⟨_,rfl,told_of rfl,keepG [11,15] SD2.loc (by omega) (by decide) hJ⟩
   | 1,ho=>
     obtain rfl:=Oj9 ho
     have e0:=hout 3 (by kernel_rfl)
     replace e0:a'.eval (.tmp 3)=_:=e0.trans rfl
     exact o_fld65_1 (.tmp 3) rfl b3 (0) (1) rfl e0 ⟨_,rfl,told_of rfl,keepG [11,15] SD2.loc (by omega) (by decide) hJ⟩
   | 2,ho=>
     obtain rfl:=Oj9 ho
     have e0:a'.eval (.tmp 58)= .pointer (some ⟨b3,1,none⟩):=by have h9:=hin 1 58 (by kernel_rfl) (by kernel_rfl);exact h9.1.trans (told_is _ h9.2 rfl)
     exact o_load3 (.tmp 58) rfl _ _ e0 (fits_cell (Mm.at hJ 1 _ rfl) 1 _ rfl) ⟨_,rfl,told_of rfl,keepG [11,15] SD2.loc (by omega) (by decide) hJ⟩
   | 3,ho=>
     obtain rfl:=Oj9 ho
     have e0:=hout 0 (by kernel_rfl)
     replace e0:a'.eval (.tmp 0)=_:=e0.trans rfl
     exact wp_move (.tmp 0) rfl _ e0 ⟨_,rfl,told_of rfl,keepG [11,15] SD2.loc (by omega) (by decide) hJ⟩
   | 4,ho=>
     obtain rfl:=Oj9 ho
     have e0:=hout 3 (by kernel_rfl)
     replace e0:a'.eval (.tmp 3)=_:=e0.trans rfl
     exact o_fld65_1 (.tmp 3) rfl b3 (0) (1) rfl e0 ⟨_,rfl,told_of rfl,keepG [11,15] SD2.loc (by omega) (by decide) hJ⟩
   | 5,ho=>
     obtain rfl:=Oj9 ho
     have e0:a'.eval (.tmp 61)= .pointer (some ⟨b3,1,none⟩):=by have h9:=hin 4 61 (by kernel_rfl) (by kernel_rfl);exact h9.1.trans (told_is _ h9.2 rfl)
     exact o_load3 (.tmp 61) rfl _ _ e0 (fits_cell (Mm.at hJ 1 _ rfl) 1 _ rfl) ⟨_,rfl,told_of rfl,keepG [11,15] SD2.loc (by omega) (by decide) hJ⟩
   | 6,ho=>
     obtain rfl:=Oj9 ho
     have e0:=hout 3 (by kernel_rfl)
     replace e0:a'.eval (.tmp 3)=_:=e0.trans rfl
     exact o_fld65_2 (.tmp 3) rfl b3 (0) (2) rfl e0 ⟨_,rfl,told_of rfl,keepG [11,15] SD2.loc (by omega) (by decide) hJ⟩
   | 7,ho=>
     obtain rfl:=Oj9 ho
     have e0:a'.eval (.tmp 63)= .pointer (some ⟨b3,2,none⟩):=by have h9:=hin 6 63 (by kernel_rfl) (by kernel_rfl);exact h9.1.trans (told_is _ h9.2 rfl)
     exact o_load2 (.tmp 63) rfl _ _ e0 (fits_cell (Mm.at hJ 1 _ rfl) 2 _ rfl) ⟨_,rfl,told_of rfl,keepG [11,15] SD2.loc (by omega) (by decide) hJ⟩
   | 8,ho=>
     obtain rfl:=Oj9 ho
     have e0:a'.eval (.tmp 57)=P0 z:=by have h9:=hin 0 57 (by kernel_rfl) (by kernel_rfl);exact h9.1.trans (told_is _ h9.2 rfl)
     exact o_nil (.tmp 57) rfl _ e0 ⟨_,rfl,told_of rfl,keepG [11,15] SD2.loc (by omega) (by decide) hJ⟩
   | 9,ho=>
     obtain rfl:=Oj9 ho
     have e0:a'.eval (.tmp 65)=P0 z:=by have h9:=hin 8 65 (by kernel_rfl) (by kernel_rfl);exact h9.1.trans (told_is _ h9.2 rfl)
     exact o_fld55_1 (.tmp 65) rfl z (0) (1) rfl e0 ⟨_,rfl,told_of rfl,keepG [11,15] SD2.loc (by omega) (by decide) hJ⟩
   | 10,ho=>
     obtain rfl:=Oj9 ho
     have e0:a'.eval (.tmp 66)= .pointer (some ⟨z,1,none⟩):=by have h9:=hin 9 66 (by kernel_rfl) (by kernel_rfl);exact h9.1.trans (told_is _ h9.2 rfl)
     have e1:a'.eval (.tmp 59)= .int .i64 t:=by have h9:=hin 2 59 (by kernel_rfl) (by kernel_rfl);exact h9.1.trans (told_is _ h9.2 rfl)
     exact o_idx53 (.tmp 66) (.tmp 59) rfl z (1) t (1+t) (by assumption) rfl e0 e1 ⟨_,rfl,told_of rfl,keepG [11,15] SD2.loc (by omega) (by decide) hJ⟩
   | 11,ho=>
     obtain rfl:=Oj9 ho
     have e0:a'.eval (.tmp 67)= .pointer (some ⟨z,1+t,none⟩):=by have h9:=hin 10 67 (by kernel_rfl) (by kernel_rfl);exact h9.1.trans (told_is _ h9.2 rfl)
     exact o_st1 size31 (.tmp 67) _ rfl rfl z (1+t) 0 (.int .i64 1) ⟨rfl,rfl⟩ e0 rfl (SD2.no hJ hlf) rfl (by show 1+t<17;omega) (nd_setM b _ _ t (by assumption) _) (fun W hM=>⟨undef,rfl,told_no rfl,nextG (by omega) hM⟩)
   | 12,ho=>
     obtain rfl:=Oj9 ho
     have e0:a'.eval (.tmp 60)=P0 z:=by have h9:=hin 3 60 (by kernel_rfl) (by kernel_rfl);exact h9.1.trans (told_is _ h9.2 rfl)
     exact o_nil (.tmp 60) rfl _ e0 ⟨_,rfl,told_of rfl,keepG [11,15] SD2.loc (by omega) (by decide) hJ⟩
   | 13,ho=>
     obtain rfl:=Oj9 ho
     have e0:a'.eval (.tmp 68)=P0 z:=by have h9:=hin 12 68 (by kernel_rfl) (by kernel_rfl);exact h9.1.trans (told_is _ h9.2 rfl)
     exact o_fld55_2 (.tmp 68) rfl z (0) (9) rfl e0 ⟨_,rfl,told_of rfl,keepG [11,15] SD2.loc (by omega) (by decide) hJ⟩
   | 14,ho=>
     obtain rfl:=Oj9 ho
     have e0:a'.eval (.tmp 69)= .pointer (some ⟨z,9,none⟩):=by have h9:=hin 13 69 (by kernel_rfl) (by kernel_rfl);exact h9.1.trans (told_is _ h9.2 rfl)
     have e1:a'.eval (.tmp 62)= .int .i64 t:=by have h9:=hin 5 62 (by kernel_rfl) (by kernel_rfl);exact h9.1.trans (told_is _ h9.2 rfl)
     exact o_idx37 (.tmp 69) (.tmp 62) rfl z (9) t (9+t) (by assumption) rfl e0 e1 ⟨_,rfl,told_of rfl,keepG [11,15] SD2.loc (by omega) (by decide) hJ⟩
   | 15,ho=>
     obtain rfl:=Oj9 ho
     have e0:a'.eval (.tmp 70)= .pointer (some ⟨z,9+t,none⟩):=by have h9:=hin 14 70 (by kernel_rfl) (by kernel_rfl);exact h9.1.trans (told_is _ h9.2 rfl)
     have e1:a'.eval (.tmp 64)= .int .i64 c:=by have h9:=hin 7 64 (by kernel_rfl) (by kernel_rfl);exact h9.1.trans (told_is _ h9.2 rfl)
     exact o_st1 size2 (.tmp 70) (.tmp 64) rfl rfl z (9+t) 0 (.int .i64 c) ⟨rfl,rfl⟩ e0 e1 (SD2.no2 hJ hlf) rfl (by show 9+t<17;omega) (nd_setO b _ _ t (by assumption) _) (fun W hM=>⟨undef,rfl,told_no rfl,nextG (by omega) hM⟩)
 intro l_ vs4 V2 hl hJ htold
 have t0:vs4 0=P0 z:=told_is _ (htold 0 (by decide)) rfl
 have t1:vs4 1= .pointer (some ⟨b3,1,none⟩):=told_is _ (htold 1 (by decide)) rfl
 have t2:vs4 2= .int .i64 t:=told_is _ (htold 2 (by decide)) rfl
 have t3:vs4 3=P0 z:=told_is _ (htold 3 (by decide)) rfl
 have t4:vs4 4= .pointer (some ⟨b3,1,none⟩):=told_is _ (htold 4 (by decide)) rfl
 have t5:vs4 5= .int .i64 t:=told_is _ (htold 5 (by decide)) rfl
 have t6:vs4 6= .pointer (some ⟨b3,2,none⟩):=told_is _ (htold 6 (by decide)) rfl
 have t7:vs4 7= .int .i64 c:=told_is _ (htold 7 (by decide)) rfl
 have t8:vs4 8=P0 z:=told_is _ (htold 8 (by decide)) rfl
 have t9:vs4 9= .pointer (some ⟨z,1,none⟩):=told_is _ (htold 9 (by decide)) rfl
 have t10:vs4 10= .pointer (some ⟨z,1+t,none⟩):=told_is _ (htold 10 (by decide)) rfl
 have t12:vs4 12=P0 z:=told_is _ (htold 12 (by decide)) rfl
 have t13:vs4 13= .pointer (some ⟨z,9,none⟩):=told_is _ (htold 13 (by decide)) rfl
 have t14:vs4 14= .pointer (some ⟨z,9+t,none⟩):=told_is _ (htold 14 (by decide)) rfl
 rw [show (List.range 16).map vs4= [vs4 0,vs4 1,vs4 2,vs4 3,vs4 4,vs4 5,vs4 6,vs4 7,vs4 8,vs4 9,vs4 10,vs4 11,vs4 12,vs4 13,vs4 14,vs4 15] from rfl]
 simp only [t0,t1,t2,t3,t4,t5,t6,t7,t8,t9,t10,t12,t13,t14,putAll,Act.put,List.setIfInBounds_toArray,List.set_cons_succ,List.set_cons_zero]
 clear t0 t1 t2 t3 t4 t5 t6 t7 t8 t9 t10 t12 t13 t14 htold
 have hM4:Mm [z] w V2 ([(z,55,ndC b (upd m t 1) (upd o t c)),(b3,65,Od.C (⟨2,t,c,d,n,p⟩:Od))]):=SD2.yes hJ (hl 11 (by decide)) (hl 15 (by decide))
 replace M:Hid (Mm [z] w V2 [(z,55,ndC b (upd m t 1) (upd o t c)),(b3,65,Od.C (⟨2,t,c,d,n,p⟩:Od))]):=hide hM4
 clear hM4 hJ hl
 go_wp2_with fail
 refine wp_region_any mixed (wpAny_gx 16 rfl (by kernel_rfl) [some (P0 z),some (.pointer (some ⟨b3,4,none⟩)),some (.int .i64 n),some (P0 z),some (.pointer (some ⟨b3,4,none⟩)),some (.int .i64 n),some (.pointer (some ⟨b3,2,none⟩)),some (.int .i64 c),some (P0 z),some (.pointer (some ⟨z,1,none⟩)),some (.pointer (some ⟨z,1+n,none⟩)),none,some (P0 z),some (.pointer (some ⟨z,9,none⟩)),some (.pointer (some ⟨z,9+n,none⟩)),none] rfl (by kernel_rfl) (fun l vs W=>(SD2 [z] w (fun d1 d2=> [(z,55,ndC b (cond d1 (upd (upd m t 1) n 1) (upd m t 1)) (cond d2 (upd (upd o t c) n c) (upd o t c))),(b3,65,Od.C (⟨2,t,c,d,n,p⟩:Od))]) 11 15) (fun i=>l.getD i false) vs W) ((unhide M).drew) ?_ ?_)
 · intro ix o' hi ho a' w2 l vs hls hlf hJ hout hin hdep hnot
   match ix,ho with
   | 0,ho=>
     obtain rfl:=Oj9 ho
     have e0:=hout 0 (by kernel_rfl)
     replace e0:a'.eval (.tmp 0)=_:=e0.trans rfl
     exact wp_move (.tmp 0) rfl _ e0 ⟨_,rfl,told_of rfl,keepG [11,15] SD2.loc (by omega) (by decide) hJ⟩
   | 1,ho=>
     obtain rfl:=Oj9 ho
     have e0:=hout 3 (by kernel_rfl)
     replace e0:a'.eval (.tmp 3)=_:=e0.trans rfl
     exact o_fld65_4 (.tmp 3) rfl b3 (0) (4) rfl e0 ⟨_,rfl,told_of rfl,keepG [11,15] SD2.loc (by omega) (by decide) hJ⟩
   | 2,ho=>
     obtain rfl:=Oj9 ho
     have e0:a'.eval (.tmp 72)= .pointer (some ⟨b3,4,none⟩):=by have h9:=hin 1 72 (by kernel_rfl) (by kernel_rfl);exact h9.1.trans (told_is _ h9.2 rfl)
     exact o_load3 (.tmp 72) rfl _ _ e0 (fits_cell (Mm.at hJ 1 _ rfl) 4 _ rfl) ⟨_,rfl,told_of rfl,keepG [11,15] SD2.loc (by omega) (by decide) hJ⟩
   | 3,ho=>
     obtain rfl:=Oj9 ho
     have e0:=hout 0 (by kernel_rfl)
     replace e0:a'.eval (.tmp 0)=_:=e0.trans rfl
     exact wp_move (.tmp 0) rfl _ e0 ⟨_,rfl,told_of rfl,keepG [11,15] SD2.loc (by omega) (by decide) hJ⟩
   | 4,ho=>
     obtain rfl:=Oj9 ho
     have e0:=hout 3 (by kernel_rfl)
     replace e0:a'.eval (.tmp 3)=_:=e0.trans rfl
     exact o_fld65_4 (.tmp 3) rfl b3 (0) (4) rfl e0 ⟨_,rfl,told_of rfl,keepG [11,15] SD2.loc (by omega) (by decide) hJ⟩
   | 5,ho=>
     obtain rfl:=Oj9 ho
     have e0:a'.eval (.tmp 75)= .pointer (some ⟨b3,4,none⟩):=by have h9:=hin 4 75 (by kernel_rfl) (by kernel_rfl);exact h9.1.trans (told_is _ h9.2 rfl)
     exact o_load3 (.tmp 75) rfl _ _ e0 (fits_cell (Mm.at hJ 1 _ rfl) 4 _ rfl) ⟨_,rfl,told_of rfl,keepG [11,15] SD2.loc (by omega) (by decide) hJ⟩
   | 6,ho=>
     obtain rfl:=Oj9 ho
     have e0:=hout 3 (by kernel_rfl)
     replace e0:a'.eval (.tmp 3)=_:=e0.trans rfl
     exact o_fld65_2 (.tmp 3) rfl b3 (0) (2) rfl e0 ⟨_,rfl,told_of rfl,keepG [11,15] SD2.loc (by omega) (by decide) hJ⟩
   | 7,ho=>
     obtain rfl:=Oj9 ho
     have e0:a'.eval (.tmp 77)= .pointer (some ⟨b3,2,none⟩):=by have h9:=hin 6 77 (by kernel_rfl) (by kernel_rfl);exact h9.1.trans (told_is _ h9.2 rfl)
     exact o_load2 (.tmp 77) rfl _ _ e0 (fits_cell (Mm.at hJ 1 _ rfl) 2 _ rfl) ⟨_,rfl,told_of rfl,keepG [11,15] SD2.loc (by omega) (by decide) hJ⟩
   | 8,ho=>
     obtain rfl:=Oj9 ho
     have e0:a'.eval (.tmp 71)=P0 z:=by have h9:=hin 0 71 (by kernel_rfl) (by kernel_rfl);exact h9.1.trans (told_is _ h9.2 rfl)
     exact o_nil (.tmp 71) rfl _ e0 ⟨_,rfl,told_of rfl,keepG [11,15] SD2.loc (by omega) (by decide) hJ⟩
   | 9,ho=>
     obtain rfl:=Oj9 ho
     have e0:a'.eval (.tmp 79)=P0 z:=by have h9:=hin 8 79 (by kernel_rfl) (by kernel_rfl);exact h9.1.trans (told_is _ h9.2 rfl)
     exact o_fld55_1 (.tmp 79) rfl z (0) (1) rfl e0 ⟨_,rfl,told_of rfl,keepG [11,15] SD2.loc (by omega) (by decide) hJ⟩
   | 10,ho=>
     obtain rfl:=Oj9 ho
     have e0:a'.eval (.tmp 80)= .pointer (some ⟨z,1,none⟩):=by have h9:=hin 9 80 (by kernel_rfl) (by kernel_rfl);exact h9.1.trans (told_is _ h9.2 rfl)
     have e1:a'.eval (.tmp 73)= .int .i64 n:=by have h9:=hin 2 73 (by kernel_rfl) (by kernel_rfl);exact h9.1.trans (told_is _ h9.2 rfl)
     exact o_idx53 (.tmp 80) (.tmp 73) rfl z (1) n (1+n) (by assumption) rfl e0 e1 ⟨_,rfl,told_of rfl,keepG [11,15] SD2.loc (by omega) (by decide) hJ⟩
   | 11,ho=>
     obtain rfl:=Oj9 ho
     have e0:a'.eval (.tmp 81)= .pointer (some ⟨z,1+n,none⟩):=by have h9:=hin 10 81 (by kernel_rfl) (by kernel_rfl);exact h9.1.trans (told_is _ h9.2 rfl)
     exact o_st1 size31 (.tmp 81) _ rfl rfl z (1+n) 0 (.int .i64 1) ⟨rfl,rfl⟩ e0 rfl (SD2.no hJ hlf) rfl (by show 1+n<17;omega) (nd_setM b _ _ n (by assumption) _) (fun W hM=>⟨undef,rfl,told_no rfl,nextG (by omega) hM⟩)
   | 12,ho=>
     obtain rfl:=Oj9 ho
     have e0:a'.eval (.tmp 74)=P0 z:=by have h9:=hin 3 74 (by kernel_rfl) (by kernel_rfl);exact h9.1.trans (told_is _ h9.2 rfl)
     exact o_nil (.tmp 74) rfl _ e0 ⟨_,rfl,told_of rfl,keepG [11,15] SD2.loc (by omega) (by decide) hJ⟩
   | 13,ho=>
     obtain rfl:=Oj9 ho
     have e0:a'.eval (.tmp 82)=P0 z:=by have h9:=hin 12 82 (by kernel_rfl) (by kernel_rfl);exact h9.1.trans (told_is _ h9.2 rfl)
     exact o_fld55_2 (.tmp 82) rfl z (0) (9) rfl e0 ⟨_,rfl,told_of rfl,keepG [11,15] SD2.loc (by omega) (by decide) hJ⟩
   | 14,ho=>
     obtain rfl:=Oj9 ho
     have e0:a'.eval (.tmp 83)= .pointer (some ⟨z,9,none⟩):=by have h9:=hin 13 83 (by kernel_rfl) (by kernel_rfl);exact h9.1.trans (told_is _ h9.2 rfl)
     have e1:a'.eval (.tmp 76)= .int .i64 n:=by have h9:=hin 5 76 (by kernel_rfl) (by kernel_rfl);exact h9.1.trans (told_is _ h9.2 rfl)
     exact o_idx37 (.tmp 83) (.tmp 76) rfl z (9) n (9+n) (by assumption) rfl e0 e1 ⟨_,rfl,told_of rfl,keepG [11,15] SD2.loc (by omega) (by decide) hJ⟩
   | 15,ho=>
     obtain rfl:=Oj9 ho
     have e0:a'.eval (.tmp 84)= .pointer (some ⟨z,9+n,none⟩):=by have h9:=hin 14 84 (by kernel_rfl) (by kernel_rfl);exact h9.1.trans (told_is _ h9.2 rfl)
     have e1:a'.eval (.tmp 78)= .int .i64 c:=by have h9:=hin 7 78 (by kernel_rfl) (by kernel_rfl);exact h9.1.trans (told_is _ h9.2 rfl)
     exact o_st1 size2 (.tmp 84) (.tmp 78) rfl rfl z (9+n) 0 (.int .i64 c) ⟨rfl,rfl⟩ e0 e1 (SD2.no2 hJ hlf) rfl (by show 9+n<17;omega) (nd_setO b _ _ n (by assumption) _) (fun W hM=>⟨undef,rfl,told_no rfl,nextG (by omega) hM⟩)
 intro l_ vs4 V3 hl hJ htold
 have t0:vs4 0=P0 z:=told_is _ (htold 0 (by decide)) rfl
 have t1:vs4 1= .pointer (some ⟨b3,4,none⟩):=told_is _ (htold 1 (by decide)) rfl
 have t2:vs4 2= .int .i64 n:=told_is _ (htold 2 (by decide)) rfl
 have t3:vs4 3=P0 z:=told_is _ (htold 3 (by decide)) rfl
 have t4:vs4 4= .pointer (some ⟨b3,4,none⟩):=told_is _ (htold 4 (by decide)) rfl
 have t5:vs4 5= .int .i64 n:=told_is _ (htold 5 (by decide)) rfl
 have t6:vs4 6= .pointer (some ⟨b3,2,none⟩):=told_is _ (htold 6 (by decide)) rfl
 have t7:vs4 7= .int .i64 c:=told_is _ (htold 7 (by decide)) rfl
 have t8:vs4 8=P0 z:=told_is _ (htold 8 (by decide)) rfl
 have t9:vs4 9= .pointer (some ⟨z,1,none⟩):=told_is _ (htold 9 (by decide)) rfl
 have t10:vs4 10= .pointer (some ⟨z,1+n,none⟩):=told_is _ (htold 10 (by decide)) rfl
 have t12:vs4 12=P0 z:=told_is _ (htold 12 (by decide)) rfl
 have t13:vs4 13= .pointer (some ⟨z,9,none⟩):=told_is _ (htold 13 (by decide)) rfl
 have t14:vs4 14= .pointer (some ⟨z,9+n,none⟩):=told_is _ (htold 14 (by decide)) rfl
 rw [show (List.range 16).map vs4= [vs4 0,vs4 1,vs4 2,vs4 3,vs4 4,vs4 5,vs4 6,vs4 7,vs4 8,vs4 9,vs4 10,vs4 11,vs4 12,vs4 13,vs4 14,vs4 15] from rfl]
 simp only [t0,t1,t2,t3,t4,t5,t6,t7,t8,t9,t10,t12,t13,t14,putAll,Act.put,List.setIfInBounds_toArray,List.set_cons_succ,List.set_cons_zero]
 clear t0 t1 t2 t3 t4 t5 t6 t7 t8 t9 t10 t12 t13 t14 htold
 have hM4:Mm [z] w V3 ([(z,55,ndC b (upd (upd m t 1) n 1) (upd (upd o t c) n c)),(b3,65,Od.C (⟨2,t,c,d,n,p⟩:Od))]):=SD2.yes hJ (hl 11 (by decide)) (hl 15 (by decide))
 replace M:Hid (Mm [z] w V3 [(z,55,ndC b (upd (upd m t 1) n 1) (upd (upd o t c) n c)),(b3,65,Od.C (⟨2,t,c,d,n,p⟩:Od))]):=hide hM4
 clear hM4 hJ hl
 go_wp2_with fail
 have hP:PG A base w z b b3 (upd (upd m t 1) n 1) (upd (upd o t c) n c) s L ln (⟨2,t,c,d,n,p⟩:Od) V3:=⟨(unhide M).kept,(unhide M).at 1 _ rfl,(unhide HN).put (unhide M).kept ((unhide M).at 0 _ rfl)⟩
 clear M HN
 have HP:=hide hP
 clear hP
 refine wp_region_any mixed (wpAny_gx 13 rfl (by kernel_rfl) [some (P0 z),some (P0 z),some (P0 z),some (P0 b),some (.pointer (some ⟨b3,4,none⟩)),some (.int .i64 n),some (.pointer (some ⟨b3,2,none⟩)),some (.int .i64 c),none,some (P0 z),some (.bool (rightB (upd (upd m t 1) n 1))),none,some (.bool (rightB (upd (upd m t 1) n 1)))] rfl (by kernel_rfl) (fun l vs W=>(SG (PG A base w z b b3 (upd (upd m t 1) n 1) (upd (upd o t c) n c) s L ln (⟨2,t,c,d,n,p⟩:Od)) (RG (A+1) base w z b b3 (upd (upd m t 1) n 1) (upd (upd o t c) n c) ln (gotP s L n c) (⟨2,t,c,d,n,p⟩:Od)) 8 11) (fun i=>l.getD i false) vs W) (⟨fun _=>⟨(unhide HP).1.drew,(unhide HP).2.1.drew,(unhide HP).2.2.step (Kept.refl [] _).drew⟩,(fun h=>by cases h),fun h=>by cases h⟩) ?_ ?_)
 · intro ix o' hi ho a' w2 l vs hls hlf hJ hout hin hdep hnot
   match ix,ho with
   | 0,ho=>
     obtain rfl:=Oj9 ho
     have e0:=hout 0 (by kernel_rfl)
     replace e0:a'.eval (.tmp 0)=_:=e0.trans rfl
     exact wp_move (.tmp 0) rfl _ e0 ⟨_,rfl,told_of rfl,keepG [8,11] SG.loc (by omega) (by decide) hJ⟩
   | 1,ho=>
     obtain rfl:=Oj9 ho
     have e0:a'.eval (.tmp 85)=P0 z:=by have h9:=hin 0 85 (by kernel_rfl) (by kernel_rfl);exact h9.1.trans (told_is _ h9.2 rfl)
     exact o_nil (.tmp 85) rfl _ e0 ⟨_,rfl,told_of rfl,keepG [8,11] SG.loc (by omega) (by decide) hJ⟩
   | 2,ho=>
     obtain rfl:=Oj9 ho
     have e0:a'.eval (.tmp 86)=P0 z:=by have h9:=hin 1 86 (by kernel_rfl) (by kernel_rfl);exact h9.1.trans (told_is _ h9.2 rfl)
     exact o_fld55_0 (.tmp 86) rfl z (0) (0) rfl e0 ⟨_,rfl,told_of rfl,keepG [8,11] SG.loc (by omega) (by decide) hJ⟩
   | 3,ho=>
     obtain rfl:=Oj9 ho
     have e0:a'.eval (.tmp 87)=P0 z:=by have h9:=hin 2 87 (by kernel_rfl) (by kernel_rfl);exact h9.1.trans (told_is _ h9.2 rfl)
     exact o_load24 (.tmp 87) rfl _ _ e0 (fits_cell hJ.b3.2 0 _ rfl) ⟨_,rfl,told_of rfl,keepG [8,11] SG.loc (by omega) (by decide) hJ⟩
   | 4,ho=>
     obtain rfl:=Oj9 ho
     have e0:=hout 3 (by kernel_rfl)
     replace e0:a'.eval (.tmp 3)=_:=e0.trans rfl
     exact o_fld65_4 (.tmp 3) rfl b3 (0) (4) rfl e0 ⟨_,rfl,told_of rfl,keepG [8,11] SG.loc (by omega) (by decide) hJ⟩
   | 5,ho=>
     obtain rfl:=Oj9 ho
     have e0:a'.eval (.tmp 89)= .pointer (some ⟨b3,4,none⟩):=by have h9:=hin 4 89 (by kernel_rfl) (by kernel_rfl);exact h9.1.trans (told_is _ h9.2 rfl)
     exact o_load3 (.tmp 89) rfl _ _ e0 (fits_cell hJ.b3.1 4 _ rfl) ⟨_,rfl,told_of rfl,keepG [8,11] SG.loc (by omega) (by decide) hJ⟩
   | 6,ho=>
     obtain rfl:=Oj9 ho
     have e0:=hout 3 (by kernel_rfl)
     replace e0:a'.eval (.tmp 3)=_:=e0.trans rfl
     exact o_fld65_2 (.tmp 3) rfl b3 (0) (2) rfl e0 ⟨_,rfl,told_of rfl,keepG [8,11] SG.loc (by omega) (by decide) hJ⟩
   | 7,ho=>
     obtain rfl:=Oj9 ho
     have e0:a'.eval (.tmp 91)= .pointer (some ⟨b3,2,none⟩):=by have h9:=hin 6 91 (by kernel_rfl) (by kernel_rfl);exact h9.1.trans (told_is _ h9.2 rfl)
     exact o_load2 (.tmp 91) rfl _ _ e0 (fits_cell hJ.b3.1 2 _ rfl) ⟨_,rfl,told_of rfl,keepG [8,11] SG.loc (by omega) (by decide) hJ⟩
   | 8,ho=>
     obtain rfl:=Oj9 ho
     have e0:a'.eval (.tmp 88)=P0 b:=by have h9:=hin 3 88 (by kernel_rfl) (by kernel_rfl);exact h9.1.trans (told_is _ h9.2 rfl)
     have e1:a'.eval (.tmp 90)= .int .i64 n:=by have h9:=hin 5 90 (by kernel_rfl) (by kernel_rfl);exact h9.1.trans (told_is _ h9.2 rfl)
     have e2:a'.eval (.tmp 92)= .int .i64 c:=by have h9:=hin 7 92 (by kernel_rfl) (by kernel_rfl);exact h9.1.trans (told_is _ h9.2 rfl)
     have hP9:=hJ.n1 hlf
     refine wp_callF 29 _ _ rfl #[P0 b,.int .i64 n,.int .i64 c] (by simp [e0,e1,e2]) (cg29 _ _) ((Nk.call hP9.2.2 (by omega) (fun hs=>got29 s ln b L n c _ hs) (got_gd hP9.2.2.gd)).mono ?_)
     rintro e w3 ⟨v3,ln3,rfl,N3,hN3,K3⟩
     exact⟨_,rfl,_,rfl,told_no rfl,nextG (by omega) (SG.call hJ (by decide) (hnot 11 (by kernel_rfl)) ⟨(hP9.1.mono (by simp)).trans (K3.mono (fun k hk=>List.mem_cons_of_mem _ hk)),hP9.2.1.kept K3 (hP9.2.2.far hP9.2.1 (by decide) (by decide)),ln3,New.elder N3 hP9.1.size,hN3⟩)⟩
   | 9,ho=>
     obtain rfl:=Oj9 ho
     have e0:=hout 0 (by kernel_rfl)
     replace e0:a'.eval (.tmp 0)=_:=e0.trans rfl
     exact wp_move (.tmp 0) rfl _ e0 ⟨_,rfl,told_of rfl,keepG [8,11] SG.loc (by omega) (by decide) hJ⟩
   | 10,ho=>
     obtain rfl:=Oj9 ho
     have e0:a'.eval (.tmp 94)=P0 z:=by have h9:=hin 9 94 (by kernel_rfl) (by kernel_rfl);exact h9.1.trans (told_is _ h9.2 rfl)
     refine wp_callF 56 _ _ rfl #[P0 z] (by simp [e0]) (cg56 _ _) ((right56 z b _ _ _ hJ.b3.2).mono ?_)
     rintro e w3 ⟨rfl,q3⟩
     replace q3:=q3.symm
     subst q3
     exact⟨_,rfl,_,rfl,told_of rfl,keepG [8,11] SG.loc (by omega) (by decide) hJ⟩
   | 11,ho=>
     obtain rfl:=Oj9 ho
     have e0:a'.eval (.tmp 93)=vs 8:=(hin 8 93 (by kernel_rfl) (by kernel_rfl)).1
     exact wp_assignV (.tmp 93) rfl _ e0 ⟨_,rfl,told_no rfl,nextG (by omega) (SG.as _ _ hJ (by decide) (hdep 8 (by kernel_rfl)))⟩
   | 12,ho=>
     obtain rfl:=Oj9 ho
     have e0:a'.eval (.tmp 95)= .bool (rightB (upd (upd m t 1) n 1)):=by have h9:=hin 10 95 (by kernel_rfl) (by kernel_rfl);exact h9.1.trans (told_is _ h9.2 rfl)
     exact wp_assignV (.tmp 95) rfl _ e0 ⟨_,rfl,told_of rfl,keepG [8,11] SG.loc (by omega) (by decide) hJ⟩
 intro l_ vs4 V9 hl hJ htold
 have t0:vs4 0=P0 z:=told_is _ (htold 0 (by decide)) rfl
 have t1:vs4 1=P0 z:=told_is _ (htold 1 (by decide)) rfl
 have t2:vs4 2=P0 z:=told_is _ (htold 2 (by decide)) rfl
 have t3:vs4 3=P0 b:=told_is _ (htold 3 (by decide)) rfl
 have t4:vs4 4= .pointer (some ⟨b3,4,none⟩):=told_is _ (htold 4 (by decide)) rfl
 have t5:vs4 5= .int .i64 n:=told_is _ (htold 5 (by decide)) rfl
 have t6:vs4 6= .pointer (some ⟨b3,2,none⟩):=told_is _ (htold 6 (by decide)) rfl
 have t7:vs4 7= .int .i64 c:=told_is _ (htold 7 (by decide)) rfl
 have t9:vs4 9=P0 z:=told_is _ (htold 9 (by decide)) rfl
 have t10:vs4 10= .bool (rightB (upd (upd m t 1) n 1)):=told_is _ (htold 10 (by decide)) rfl
 have t12:vs4 12= .bool (rightB (upd (upd m t 1) n 1)):=told_is _ (htold 12 (by decide)) rfl
 rw [show (List.range 13).map vs4= [vs4 0,vs4 1,vs4 2,vs4 3,vs4 4,vs4 5,vs4 6,vs4 7,vs4 8,vs4 9,vs4 10,vs4 11,vs4 12] from rfl]
 simp only [t0,t1,t2,t3,t4,t5,t6,t7,t9,t10,t12,putAll,Act.put,List.setIfInBounds_toArray,List.set_cons_succ,List.set_cons_zero]
 clear t0 t1 t2 t3 t4 t5 t6 t7 t9 t10 t12 htold
 obtain⟨hk9,_,ln9,hO9,hN9⟩:=hJ.n2 (hl 8 (by decide))
 obtain⟨_,e9⟩:=hJ.a1 (hl 11 (by decide))
 rw [e9]
 generalize vs4 8=v9 at hO9⊢
 have HO9:=hide hO9
 have HN9:=hide hN9
 have HK9:=hide hk9
 clear hO9 hN9 hk9 e9 hJ hl HP
 go_wp2_with fail
 go_ret2
 exact⟨v9,ln9,rfl,unhide HO9,unhide HN9,unhide HK9⟩
set_option maxHeartbeats 8000000 in
theorem does23_3 (t n:Nat) (c d p:Int) (ht:t<8) (hn:n<8) (w:World) (h:Nk A base w z b m o s L ln) (hA:A≤800):Calls Try.prog 23 #[P0 z,aggV (Od.C (⟨3,t,c,d,n,p⟩:Od))] w (DN (A+1) base w z b ln (upd (upd m t 0) n 2) (upd o n c) (gotP s L n c) (rightB (upd (upd m t 0) n 2))):=by
 have M:=hide (Mm.one h.zb)
 have HN:=hide h
 have htI:(t:Int)<8:=by omega
 have hnI:(n:Int)<8:=by omega
 have q1:decide ((t:Int)<0)=false:=by simp
 have q2:decide ((t:Int)≥8)=false:=by simp;omega
 have q3:decide ((8:Int)≤(t:Int))=false:=by simp;omega
 have q4:decide ((n:Int)<0)=false:=by simp
 have q5:decide ((n:Int)≥8)=false:=by simp;omega
 have q6:decide ((8:Int)≤(n:Int))=false:=by simp;omega
 clear h
 go_enter Try.func23,Try.ntmps23
 go_wp2_with (first |(refine wpBoxV rfl (.tmp 1) rfl (Od.C (⟨3,t,c,d,n,p⟩:Od)) rfl ?_;intro W1 b3 e1 B1 K1;replace M:=hide ((unhide M).new e1 B1 K1);clear e1 B1 K1;have c0:W1.cell? ⟨b3,0,none⟩=some (.int .i64 3):=fits_cell ((unhide M).at 1 _ rfl) 0 _ rfl;have c1:W1.cell? ⟨b3,1,none⟩=some (.int .i64 t):=fits_cell ((unhide M).at 1 _ rfl) 1 _ rfl;have c4:W1.cell? ⟨b3,4,none⟩=some (.int .i64 n):=fits_cell ((unhide M).at 1 _ rfl) 4 _ rfl;refine Stp.go ?_))
 constructor
 go_wp2_with fail
 clear c0 c1 c4
 refine wp_region_any mixed (wpAny_gx 7 rfl (by kernel_rfl) [some (P0 z),some (.pointer (some ⟨b3,1,none⟩)),some (.int .i64 t),some (P0 z),some (.pointer (some ⟨z,1,none⟩)),some (.pointer (some ⟨z,1+t,none⟩)),none] rfl (by kernel_rfl) (fun l vs W=>(SD1 [z] w (fun d1=> [(z,55,ndC b (cond d1 (upd m t 0) m) o),(b3,65,Od.C (⟨3,t,c,d,n,p⟩:Od))]) 6) (fun i=>l.getD i false) vs W) ((unhide M).drew) ?_ ?_)
 · intro ix o' hi ho a' w2 l vs hls hlf hJ hout hin hdep hnot
   match ix,ho with
   | 0,ho=>
     obtain rfl:=Oj9 ho
     have e0:=hout 0 (by kernel_rfl)
     replace e0:a'.eval (.tmp 0)=_:=e0.trans rfl
     exact wp_move (.tmp 0) rfl _ e0 ⟨_,rfl,told_of rfl,keepG [6] SD1.loc (by omega) (by decide) hJ⟩
   | 1,ho=>
     obtain rfl:=Oj9 ho
     have e0:=hout 3 (by kernel_rfl)
     replace e0:a'.eval (.tmp 3)=_:=e0.trans rfl
     exact o_fld65_1 (.tmp 3) rfl b3 (0) (1) rfl e0 ⟨_,rfl,told_of rfl,keepG [6] SD1.loc (by omega) (by decide) hJ⟩
   | 2,ho=>
     obtain rfl:=Oj9 ho
     have e0:a'.eval (.tmp 99)= .pointer (some ⟨b3,1,none⟩):=by have h9:=hin 1 99 (by kernel_rfl) (by kernel_rfl);exact h9.1.trans (told_is _ h9.2 rfl)
     exact o_load3 (.tmp 99) rfl _ _ e0 (fits_cell (Mm.at hJ 1 _ rfl) 1 _ rfl) ⟨_,rfl,told_of rfl,keepG [6] SD1.loc (by omega) (by decide) hJ⟩
   | 3,ho=>
     obtain rfl:=Oj9 ho
     have e0:a'.eval (.tmp 98)=P0 z:=by have h9:=hin 0 98 (by kernel_rfl) (by kernel_rfl);exact h9.1.trans (told_is _ h9.2 rfl)
     exact o_nil (.tmp 98) rfl _ e0 ⟨_,rfl,told_of rfl,keepG [6] SD1.loc (by omega) (by decide) hJ⟩
   | 4,ho=>
     obtain rfl:=Oj9 ho
     have e0:a'.eval (.tmp 101)=P0 z:=by have h9:=hin 3 101 (by kernel_rfl) (by kernel_rfl);exact h9.1.trans (told_is _ h9.2 rfl)
     exact o_fld55_1 (.tmp 101) rfl z (0) (1) rfl e0 ⟨_,rfl,told_of rfl,keepG [6] SD1.loc (by omega) (by decide) hJ⟩
   | 5,ho=>
     obtain rfl:=Oj9 ho
     have e0:a'.eval (.tmp 102)= .pointer (some ⟨z,1,none⟩):=by have h9:=hin 4 102 (by kernel_rfl) (by kernel_rfl);exact h9.1.trans (told_is _ h9.2 rfl)
     have e1:a'.eval (.tmp 100)= .int .i64 t:=by have h9:=hin 2 100 (by kernel_rfl) (by kernel_rfl);exact h9.1.trans (told_is _ h9.2 rfl)
     exact o_idx53 (.tmp 102) (.tmp 100) rfl z (1) t (1+t) (by assumption) rfl e0 e1 ⟨_,rfl,told_of rfl,keepG [6] SD1.loc (by omega) (by decide) hJ⟩
   | 6,ho=>
     obtain rfl:=Oj9 ho
     have e0:a'.eval (.tmp 103)= .pointer (some ⟨z,1+t,none⟩):=by have h9:=hin 5 103 (by kernel_rfl) (by kernel_rfl);exact h9.1.trans (told_is _ h9.2 rfl)
     exact o_st1 size31 (.tmp 103) _ rfl rfl z (1+t) 0 (.int .i64 0) ⟨rfl,rfl⟩ e0 rfl (SD1.no hJ hlf) rfl (by show 1+t<17;omega) (nd_setM b _ _ t (by assumption) _) (fun W hM=>⟨undef,rfl,told_no rfl,nextG (by omega) hM⟩)
 intro l_ vs4 V2 hl hJ htold
 have t0:vs4 0=P0 z:=told_is _ (htold 0 (by decide)) rfl
 have t1:vs4 1= .pointer (some ⟨b3,1,none⟩):=told_is _ (htold 1 (by decide)) rfl
 have t2:vs4 2= .int .i64 t:=told_is _ (htold 2 (by decide)) rfl
 have t3:vs4 3=P0 z:=told_is _ (htold 3 (by decide)) rfl
 have t4:vs4 4= .pointer (some ⟨z,1,none⟩):=told_is _ (htold 4 (by decide)) rfl
 have t5:vs4 5= .pointer (some ⟨z,1+t,none⟩):=told_is _ (htold 5 (by decide)) rfl
 rw [show (List.range 7).map vs4= [vs4 0,vs4 1,vs4 2,vs4 3,vs4 4,vs4 5,vs4 6] from rfl]
 simp only [t0,t1,t2,t3,t4,t5,putAll,Act.put,List.setIfInBounds_toArray,List.set_cons_succ,List.set_cons_zero]
 clear t0 t1 t2 t3 t4 t5 htold
 have hM4:Mm [z] w V2 ([(z,55,ndC b (upd m t 0) o),(b3,65,Od.C (⟨3,t,c,d,n,p⟩:Od))]):=SD1.yes hJ (hl 6 (by decide))
 replace M:Hid (Mm [z] w V2 [(z,55,ndC b (upd m t 0) o),(b3,65,Od.C (⟨3,t,c,d,n,p⟩:Od))]):=hide hM4
 clear hM4 hJ hl
 go_wp2_with fail
 refine wp_region_any mixed (wpAny_gx 16 rfl (by kernel_rfl) [some (P0 z),some (.pointer (some ⟨b3,4,none⟩)),some (.int .i64 n),some (P0 z),some (.pointer (some ⟨b3,4,none⟩)),some (.int .i64 n),some (.pointer (some ⟨b3,2,none⟩)),some (.int .i64 c),some (P0 z),some (.pointer (some ⟨z,1,none⟩)),some (.pointer (some ⟨z,1+n,none⟩)),none,some (P0 z),some (.pointer (some ⟨z,9,none⟩)),some (.pointer (some ⟨z,9+n,none⟩)),none] rfl (by kernel_rfl) (fun l vs W=>(SD2 [z] w (fun d1 d2=> [(z,55,ndC b (cond d1 (upd (upd m t 0) n 2) (upd m t 0)) (cond d2 (upd o n c) o)),(b3,65,Od.C (⟨3,t,c,d,n,p⟩:Od))]) 11 15) (fun i=>l.getD i false) vs W) ((unhide M).drew) ?_ ?_)
 · intro ix o' hi ho a' w2 l vs hls hlf hJ hout hin hdep hnot
   match ix,ho with
   | 0,ho=>
     obtain rfl:=Oj9 ho
     have e0:=hout 0 (by kernel_rfl)
     replace e0:a'.eval (.tmp 0)=_:=e0.trans rfl
     exact wp_move (.tmp 0) rfl _ e0 ⟨_,rfl,told_of rfl,keepG [11,15] SD2.loc (by omega) (by decide) hJ⟩
   | 1,ho=>
     obtain rfl:=Oj9 ho
     have e0:=hout 3 (by kernel_rfl)
     replace e0:a'.eval (.tmp 3)=_:=e0.trans rfl
     exact o_fld65_4 (.tmp 3) rfl b3 (0) (4) rfl e0 ⟨_,rfl,told_of rfl,keepG [11,15] SD2.loc (by omega) (by decide) hJ⟩
   | 2,ho=>
     obtain rfl:=Oj9 ho
     have e0:a'.eval (.tmp 105)= .pointer (some ⟨b3,4,none⟩):=by have h9:=hin 1 105 (by kernel_rfl) (by kernel_rfl);exact h9.1.trans (told_is _ h9.2 rfl)
     exact o_load3 (.tmp 105) rfl _ _ e0 (fits_cell (Mm.at hJ 1 _ rfl) 4 _ rfl) ⟨_,rfl,told_of rfl,keepG [11,15] SD2.loc (by omega) (by decide) hJ⟩
   | 3,ho=>
     obtain rfl:=Oj9 ho
     have e0:=hout 0 (by kernel_rfl)
     replace e0:a'.eval (.tmp 0)=_:=e0.trans rfl
     exact wp_move (.tmp 0) rfl _ e0 ⟨_,rfl,told_of rfl,keepG [11,15] SD2.loc (by omega) (by decide) hJ⟩
   | 4,ho=>
     obtain rfl:=Oj9 ho
     have e0:=hout 3 (by kernel_rfl)
     replace e0:a'.eval (.tmp 3)=_:=e0.trans rfl
     exact o_fld65_4 (.tmp 3) rfl b3 (0) (4) rfl e0 ⟨_,rfl,told_of rfl,keepG [11,15] SD2.loc (by omega) (by decide) hJ⟩
   | 5,ho=>
     obtain rfl:=Oj9 ho
     have e0:a'.eval (.tmp 108)= .pointer (some ⟨b3,4,none⟩):=by have h9:=hin 4 108 (by kernel_rfl) (by kernel_rfl);exact h9.1.trans (told_is _ h9.2 rfl)
     exact o_load3 (.tmp 108) rfl _ _ e0 (fits_cell (Mm.at hJ 1 _ rfl) 4 _ rfl) ⟨_,rfl,told_of rfl,keepG [11,15] SD2.loc (by omega) (by decide) hJ⟩
   | 6,ho=>
     obtain rfl:=Oj9 ho
     have e0:=hout 3 (by kernel_rfl)
     replace e0:a'.eval (.tmp 3)=_:=e0.trans rfl
     exact o_fld65_2 (.tmp 3) rfl b3 (0) (2) rfl e0 ⟨_,rfl,told_of rfl,keepG [11,15] SD2.loc (by omega) (by decide) hJ⟩
   | 7,ho=>
     obtain rfl:=Oj9 ho
     have e0:a'.eval (.tmp 110)= .pointer (some ⟨b3,2,none⟩):=by have h9:=hin 6 110 (by kernel_rfl) (by kernel_rfl);exact h9.1.trans (told_is _ h9.2 rfl)
     exact o_load2 (.tmp 110) rfl _ _ e0 (fits_cell (Mm.at hJ 1 _ rfl) 2 _ rfl) ⟨_,rfl,told_of rfl,keepG [11,15] SD2.loc (by omega) (by decide) hJ⟩
   | 8,ho=>
     obtain rfl:=Oj9 ho
     have e0:a'.eval (.tmp 104)=P0 z:=by have h9:=hin 0 104 (by kernel_rfl) (by kernel_rfl);exact h9.1.trans (told_is _ h9.2 rfl)
     exact o_nil (.tmp 104) rfl _ e0 ⟨_,rfl,told_of rfl,keepG [11,15] SD2.loc (by omega) (by decide) hJ⟩
   | 9,ho=>
     obtain rfl:=Oj9 ho
     have e0:a'.eval (.tmp 112)=P0 z:=by have h9:=hin 8 112 (by kernel_rfl) (by kernel_rfl);exact h9.1.trans (told_is _ h9.2 rfl)
     exact o_fld55_1 (.tmp 112) rfl z (0) (1) rfl e0 ⟨_,rfl,told_of rfl,keepG [11,15] SD2.loc (by omega) (by decide) hJ⟩
   | 10,ho=>
     obtain rfl:=Oj9 ho
     have e0:a'.eval (.tmp 113)= .pointer (some ⟨z,1,none⟩):=by have h9:=hin 9 113 (by kernel_rfl) (by kernel_rfl);exact h9.1.trans (told_is _ h9.2 rfl)
     have e1:a'.eval (.tmp 106)= .int .i64 n:=by have h9:=hin 2 106 (by kernel_rfl) (by kernel_rfl);exact h9.1.trans (told_is _ h9.2 rfl)
     exact o_idx53 (.tmp 113) (.tmp 106) rfl z (1) n (1+n) (by assumption) rfl e0 e1 ⟨_,rfl,told_of rfl,keepG [11,15] SD2.loc (by omega) (by decide) hJ⟩
   | 11,ho=>
     obtain rfl:=Oj9 ho
     have e0:a'.eval (.tmp 114)= .pointer (some ⟨z,1+n,none⟩):=by have h9:=hin 10 114 (by kernel_rfl) (by kernel_rfl);exact h9.1.trans (told_is _ h9.2 rfl)
     exact o_st1 size31 (.tmp 114) _ rfl rfl z (1+n) 0 (.int .i64 2) ⟨rfl,rfl⟩ e0 rfl (SD2.no hJ hlf) rfl (by show 1+n<17;omega) (nd_setM b _ _ n (by assumption) _) (fun W hM=>⟨undef,rfl,told_no rfl,nextG (by omega) hM⟩)
   | 12,ho=>
     obtain rfl:=Oj9 ho
     have e0:a'.eval (.tmp 107)=P0 z:=by have h9:=hin 3 107 (by kernel_rfl) (by kernel_rfl);exact h9.1.trans (told_is _ h9.2 rfl)
     exact o_nil (.tmp 107) rfl _ e0 ⟨_,rfl,told_of rfl,keepG [11,15] SD2.loc (by omega) (by decide) hJ⟩
   | 13,ho=>
     obtain rfl:=Oj9 ho
     have e0:a'.eval (.tmp 115)=P0 z:=by have h9:=hin 12 115 (by kernel_rfl) (by kernel_rfl);exact h9.1.trans (told_is _ h9.2 rfl)
     exact o_fld55_2 (.tmp 115) rfl z (0) (9) rfl e0 ⟨_,rfl,told_of rfl,keepG [11,15] SD2.loc (by omega) (by decide) hJ⟩
   | 14,ho=>
     obtain rfl:=Oj9 ho
     have e0:a'.eval (.tmp 116)= .pointer (some ⟨z,9,none⟩):=by have h9:=hin 13 116 (by kernel_rfl) (by kernel_rfl);exact h9.1.trans (told_is _ h9.2 rfl)
     have e1:a'.eval (.tmp 109)= .int .i64 n:=by have h9:=hin 5 109 (by kernel_rfl) (by kernel_rfl);exact h9.1.trans (told_is _ h9.2 rfl)
     exact o_idx37 (.tmp 116) (.tmp 109) rfl z (9) n (9+n) (by assumption) rfl e0 e1 ⟨_,rfl,told_of rfl,keepG [11,15] SD2.loc (by omega) (by decide) hJ⟩
   | 15,ho=>
     obtain rfl:=Oj9 ho
     have e0:a'.eval (.tmp 117)= .pointer (some ⟨z,9+n,none⟩):=by have h9:=hin 14 117 (by kernel_rfl) (by kernel_rfl);exact h9.1.trans (told_is _ h9.2 rfl)
     have e1:a'.eval (.tmp 111)= .int .i64 c:=by have h9:=hin 7 111 (by kernel_rfl) (by kernel_rfl);exact h9.1.trans (told_is _ h9.2 rfl)
     exact o_st1 size2 (.tmp 117) (.tmp 111) rfl rfl z (9+n) 0 (.int .i64 c) ⟨rfl,rfl⟩ e0 e1 (SD2.no2 hJ hlf) rfl (by show 9+n<17;omega) (nd_setO b _ _ n (by assumption) _) (fun W hM=>⟨undef,rfl,told_no rfl,nextG (by omega) hM⟩)
 intro l_ vs4 V3 hl hJ htold
 have t0:vs4 0=P0 z:=told_is _ (htold 0 (by decide)) rfl
 have t1:vs4 1= .pointer (some ⟨b3,4,none⟩):=told_is _ (htold 1 (by decide)) rfl
 have t2:vs4 2= .int .i64 n:=told_is _ (htold 2 (by decide)) rfl
 have t3:vs4 3=P0 z:=told_is _ (htold 3 (by decide)) rfl
 have t4:vs4 4= .pointer (some ⟨b3,4,none⟩):=told_is _ (htold 4 (by decide)) rfl
 have t5:vs4 5= .int .i64 n:=told_is _ (htold 5 (by decide)) rfl
 have t6:vs4 6= .pointer (some ⟨b3,2,none⟩):=told_is _ (htold 6 (by decide)) rfl
 have t7:vs4 7= .int .i64 c:=told_is _ (htold 7 (by decide)) rfl
 have t8:vs4 8=P0 z:=told_is _ (htold 8 (by decide)) rfl
 have t9:vs4 9= .pointer (some ⟨z,1,none⟩):=told_is _ (htold 9 (by decide)) rfl
 have t10:vs4 10= .pointer (some ⟨z,1+n,none⟩):=told_is _ (htold 10 (by decide)) rfl
 have t12:vs4 12=P0 z:=told_is _ (htold 12 (by decide)) rfl
 have t13:vs4 13= .pointer (some ⟨z,9,none⟩):=told_is _ (htold 13 (by decide)) rfl
 have t14:vs4 14= .pointer (some ⟨z,9+n,none⟩):=told_is _ (htold 14 (by decide)) rfl
 rw [show (List.range 16).map vs4= [vs4 0,vs4 1,vs4 2,vs4 3,vs4 4,vs4 5,vs4 6,vs4 7,vs4 8,vs4 9,vs4 10,vs4 11,vs4 12,vs4 13,vs4 14,vs4 15] from rfl]
 simp only [t0,t1,t2,t3,t4,t5,t6,t7,t8,t9,t10,t12,t13,t14,putAll,Act.put,List.setIfInBounds_toArray,List.set_cons_succ,List.set_cons_zero]
 clear t0 t1 t2 t3 t4 t5 t6 t7 t8 t9 t10 t12 t13 t14 htold
 have hM4:Mm [z] w V3 ([(z,55,ndC b (upd (upd m t 0) n 2) (upd o n c)),(b3,65,Od.C (⟨3,t,c,d,n,p⟩:Od))]):=SD2.yes hJ (hl 11 (by decide)) (hl 15 (by decide))
 replace M:Hid (Mm [z] w V3 [(z,55,ndC b (upd (upd m t 0) n 2) (upd o n c)),(b3,65,Od.C (⟨3,t,c,d,n,p⟩:Od))]):=hide hM4
 clear hM4 hJ hl
 go_wp2_with fail
 have hP:PG A base w z b b3 (upd (upd m t 0) n 2) (upd o n c) s L ln (⟨3,t,c,d,n,p⟩:Od) V3:=⟨(unhide M).kept,(unhide M).at 1 _ rfl,(unhide HN).put (unhide M).kept ((unhide M).at 0 _ rfl)⟩
 clear M HN
 have HP:=hide hP
 clear hP
 refine wp_region_any mixed (wpAny_gx 13 rfl (by kernel_rfl) [some (P0 z),some (P0 z),some (P0 z),some (P0 b),some (.pointer (some ⟨b3,4,none⟩)),some (.int .i64 n),some (.pointer (some ⟨b3,2,none⟩)),some (.int .i64 c),none,some (P0 z),some (.bool (rightB (upd (upd m t 0) n 2))),none,some (.bool (rightB (upd (upd m t 0) n 2)))] rfl (by kernel_rfl) (fun l vs W=>(SG (PG A base w z b b3 (upd (upd m t 0) n 2) (upd o n c) s L ln (⟨3,t,c,d,n,p⟩:Od)) (RG (A+1) base w z b b3 (upd (upd m t 0) n 2) (upd o n c) ln (gotP s L n c) (⟨3,t,c,d,n,p⟩:Od)) 8 11) (fun i=>l.getD i false) vs W) (⟨fun _=>⟨(unhide HP).1.drew,(unhide HP).2.1.drew,(unhide HP).2.2.step (Kept.refl [] _).drew⟩,(fun h=>by cases h),fun h=>by cases h⟩) ?_ ?_)
 · intro ix o' hi ho a' w2 l vs hls hlf hJ hout hin hdep hnot
   match ix,ho with
   | 0,ho=>
     obtain rfl:=Oj9 ho
     have e0:=hout 0 (by kernel_rfl)
     replace e0:a'.eval (.tmp 0)=_:=e0.trans rfl
     exact wp_move (.tmp 0) rfl _ e0 ⟨_,rfl,told_of rfl,keepG [8,11] SG.loc (by omega) (by decide) hJ⟩
   | 1,ho=>
     obtain rfl:=Oj9 ho
     have e0:a'.eval (.tmp 118)=P0 z:=by have h9:=hin 0 118 (by kernel_rfl) (by kernel_rfl);exact h9.1.trans (told_is _ h9.2 rfl)
     exact o_nil (.tmp 118) rfl _ e0 ⟨_,rfl,told_of rfl,keepG [8,11] SG.loc (by omega) (by decide) hJ⟩
   | 2,ho=>
     obtain rfl:=Oj9 ho
     have e0:a'.eval (.tmp 119)=P0 z:=by have h9:=hin 1 119 (by kernel_rfl) (by kernel_rfl);exact h9.1.trans (told_is _ h9.2 rfl)
     exact o_fld55_0 (.tmp 119) rfl z (0) (0) rfl e0 ⟨_,rfl,told_of rfl,keepG [8,11] SG.loc (by omega) (by decide) hJ⟩
   | 3,ho=>
     obtain rfl:=Oj9 ho
     have e0:a'.eval (.tmp 120)=P0 z:=by have h9:=hin 2 120 (by kernel_rfl) (by kernel_rfl);exact h9.1.trans (told_is _ h9.2 rfl)
     exact o_load24 (.tmp 120) rfl _ _ e0 (fits_cell hJ.b3.2 0 _ rfl) ⟨_,rfl,told_of rfl,keepG [8,11] SG.loc (by omega) (by decide) hJ⟩
   | 4,ho=>
     obtain rfl:=Oj9 ho
     have e0:=hout 3 (by kernel_rfl)
     replace e0:a'.eval (.tmp 3)=_:=e0.trans rfl
     exact o_fld65_4 (.tmp 3) rfl b3 (0) (4) rfl e0 ⟨_,rfl,told_of rfl,keepG [8,11] SG.loc (by omega) (by decide) hJ⟩
   | 5,ho=>
     obtain rfl:=Oj9 ho
     have e0:a'.eval (.tmp 122)= .pointer (some ⟨b3,4,none⟩):=by have h9:=hin 4 122 (by kernel_rfl) (by kernel_rfl);exact h9.1.trans (told_is _ h9.2 rfl)
     exact o_load3 (.tmp 122) rfl _ _ e0 (fits_cell hJ.b3.1 4 _ rfl) ⟨_,rfl,told_of rfl,keepG [8,11] SG.loc (by omega) (by decide) hJ⟩
   | 6,ho=>
     obtain rfl:=Oj9 ho
     have e0:=hout 3 (by kernel_rfl)
     replace e0:a'.eval (.tmp 3)=_:=e0.trans rfl
     exact o_fld65_2 (.tmp 3) rfl b3 (0) (2) rfl e0 ⟨_,rfl,told_of rfl,keepG [8,11] SG.loc (by omega) (by decide) hJ⟩
   | 7,ho=>
     obtain rfl:=Oj9 ho
     have e0:a'.eval (.tmp 124)= .pointer (some ⟨b3,2,none⟩):=by have h9:=hin 6 124 (by kernel_rfl) (by kernel_rfl);exact h9.1.trans (told_is _ h9.2 rfl)
     exact o_load2 (.tmp 124) rfl _ _ e0 (fits_cell hJ.b3.1 2 _ rfl) ⟨_,rfl,told_of rfl,keepG [8,11] SG.loc (by omega) (by decide) hJ⟩
   | 8,ho=>
     obtain rfl:=Oj9 ho
     have e0:a'.eval (.tmp 121)=P0 b:=by have h9:=hin 3 121 (by kernel_rfl) (by kernel_rfl);exact h9.1.trans (told_is _ h9.2 rfl)
     have e1:a'.eval (.tmp 123)= .int .i64 n:=by have h9:=hin 5 123 (by kernel_rfl) (by kernel_rfl);exact h9.1.trans (told_is _ h9.2 rfl)
     have e2:a'.eval (.tmp 125)= .int .i64 c:=by have h9:=hin 7 125 (by kernel_rfl) (by kernel_rfl);exact h9.1.trans (told_is _ h9.2 rfl)
     have hP9:=hJ.n1 hlf
     refine wp_callF 29 _ _ rfl #[P0 b,.int .i64 n,.int .i64 c] (by simp [e0,e1,e2]) (cg29 _ _) ((Nk.call hP9.2.2 (by omega) (fun hs=>got29 s ln b L n c _ hs) (got_gd hP9.2.2.gd)).mono ?_)
     rintro e w3 ⟨v3,ln3,rfl,N3,hN3,K3⟩
     exact⟨_,rfl,_,rfl,told_no rfl,nextG (by omega) (SG.call hJ (by decide) (hnot 11 (by kernel_rfl)) ⟨(hP9.1.mono (by simp)).trans (K3.mono (fun k hk=>List.mem_cons_of_mem _ hk)),hP9.2.1.kept K3 (hP9.2.2.far hP9.2.1 (by decide) (by decide)),ln3,New.elder N3 hP9.1.size,hN3⟩)⟩
   | 9,ho=>
     obtain rfl:=Oj9 ho
     have e0:=hout 0 (by kernel_rfl)
     replace e0:a'.eval (.tmp 0)=_:=e0.trans rfl
     exact wp_move (.tmp 0) rfl _ e0 ⟨_,rfl,told_of rfl,keepG [8,11] SG.loc (by omega) (by decide) hJ⟩
   | 10,ho=>
     obtain rfl:=Oj9 ho
     have e0:a'.eval (.tmp 127)=P0 z:=by have h9:=hin 9 127 (by kernel_rfl) (by kernel_rfl);exact h9.1.trans (told_is _ h9.2 rfl)
     refine wp_callF 56 _ _ rfl #[P0 z] (by simp [e0]) (cg56 _ _) ((right56 z b _ _ _ hJ.b3.2).mono ?_)
     rintro e w3 ⟨rfl,q3⟩
     replace q3:=q3.symm
     subst q3
     exact⟨_,rfl,_,rfl,told_of rfl,keepG [8,11] SG.loc (by omega) (by decide) hJ⟩
   | 11,ho=>
     obtain rfl:=Oj9 ho
     have e0:a'.eval (.tmp 126)=vs 8:=(hin 8 126 (by kernel_rfl) (by kernel_rfl)).1
     exact wp_assignV (.tmp 126) rfl _ e0 ⟨_,rfl,told_no rfl,nextG (by omega) (SG.as _ _ hJ (by decide) (hdep 8 (by kernel_rfl)))⟩
   | 12,ho=>
     obtain rfl:=Oj9 ho
     have e0:a'.eval (.tmp 128)= .bool (rightB (upd (upd m t 0) n 2)):=by have h9:=hin 10 128 (by kernel_rfl) (by kernel_rfl);exact h9.1.trans (told_is _ h9.2 rfl)
     exact wp_assignV (.tmp 128) rfl _ e0 ⟨_,rfl,told_of rfl,keepG [8,11] SG.loc (by omega) (by decide) hJ⟩
 intro l_ vs4 V9 hl hJ htold
 have t0:vs4 0=P0 z:=told_is _ (htold 0 (by decide)) rfl
 have t1:vs4 1=P0 z:=told_is _ (htold 1 (by decide)) rfl
 have t2:vs4 2=P0 z:=told_is _ (htold 2 (by decide)) rfl
 have t3:vs4 3=P0 b:=told_is _ (htold 3 (by decide)) rfl
 have t4:vs4 4= .pointer (some ⟨b3,4,none⟩):=told_is _ (htold 4 (by decide)) rfl
 have t5:vs4 5= .int .i64 n:=told_is _ (htold 5 (by decide)) rfl
 have t6:vs4 6= .pointer (some ⟨b3,2,none⟩):=told_is _ (htold 6 (by decide)) rfl
 have t7:vs4 7= .int .i64 c:=told_is _ (htold 7 (by decide)) rfl
 have t9:vs4 9=P0 z:=told_is _ (htold 9 (by decide)) rfl
 have t10:vs4 10= .bool (rightB (upd (upd m t 0) n 2)):=told_is _ (htold 10 (by decide)) rfl
 have t12:vs4 12= .bool (rightB (upd (upd m t 0) n 2)):=told_is _ (htold 12 (by decide)) rfl
 rw [show (List.range 13).map vs4= [vs4 0,vs4 1,vs4 2,vs4 3,vs4 4,vs4 5,vs4 6,vs4 7,vs4 8,vs4 9,vs4 10,vs4 11,vs4 12] from rfl]
 simp only [t0,t1,t2,t3,t4,t5,t6,t7,t9,t10,t12,putAll,Act.put,List.setIfInBounds_toArray,List.set_cons_succ,List.set_cons_zero]
 clear t0 t1 t2 t3 t4 t5 t6 t7 t9 t10 t12 htold
 obtain⟨hk9,_,ln9,hO9,hN9⟩:=hJ.n2 (hl 8 (by decide))
 obtain⟨_,e9⟩:=hJ.a1 (hl 11 (by decide))
 rw [e9]
 generalize vs4 8=v9 at hO9⊢
 have HO9:=hide hO9
 have HN9:=hide hN9
 have HK9:=hide hk9
 clear hO9 hN9 hk9 e9 hJ hl HP
 go_wp2_with fail
 go_ret2
 exact⟨v9,ln9,rfl,unhide HO9,unhide HN9,unhide HK9⟩
set_option maxHeartbeats 8000000 in
theorem does23_4 (t n:Nat) (c d p:Int) (ht:t<8) (hn:n<8) (w:World) (h:Nk A base w z b m o s L ln) (hA:A≤800):Calls Try.prog 23 #[P0 z,aggV (Od.C (⟨4,t,c,d,n,p⟩:Od))] w (DN (A+1) base w z b ln (upd m t 0) (o) (goneP s L t c) (rightB (upd m t 0))):=by
 have M:=hide (Mm.one h.zb)
 have HN:=hide h
 have htI:(t:Int)<8:=by omega
 have hnI:(n:Int)<8:=by omega
 have q1:decide ((t:Int)<0)=false:=by simp
 have q2:decide ((t:Int)≥8)=false:=by simp;omega
 have q3:decide ((8:Int)≤(t:Int))=false:=by simp;omega
 have q4:decide ((n:Int)<0)=false:=by simp
 have q5:decide ((n:Int)≥8)=false:=by simp;omega
 have q6:decide ((8:Int)≤(n:Int))=false:=by simp;omega
 clear h
 go_enter Try.func23,Try.ntmps23
 go_wp2_with (first |(refine wpBoxV rfl (.tmp 1) rfl (Od.C (⟨4,t,c,d,n,p⟩:Od)) rfl ?_;intro W1 b3 e1 B1 K1;replace M:=hide ((unhide M).new e1 B1 K1);clear e1 B1 K1;have c0:W1.cell? ⟨b3,0,none⟩=some (.int .i64 4):=fits_cell ((unhide M).at 1 _ rfl) 0 _ rfl;have c1:W1.cell? ⟨b3,1,none⟩=some (.int .i64 t):=fits_cell ((unhide M).at 1 _ rfl) 1 _ rfl;have c4:W1.cell? ⟨b3,4,none⟩=some (.int .i64 n):=fits_cell ((unhide M).at 1 _ rfl) 4 _ rfl;refine Stp.go ?_))
 constructor
 go_wp2_with fail
 clear c0 c1 c4
 refine wp_region_any mixed (wpAny_gx 7 rfl (by kernel_rfl) [some (P0 z),some (.pointer (some ⟨b3,1,none⟩)),some (.int .i64 t),some (P0 z),some (.pointer (some ⟨z,1,none⟩)),some (.pointer (some ⟨z,1+t,none⟩)),none] rfl (by kernel_rfl) (fun l vs W=>(SD1 [z] w (fun d1=> [(z,55,ndC b (cond d1 (upd m t 0) m) o),(b3,65,Od.C (⟨4,t,c,d,n,p⟩:Od))]) 6) (fun i=>l.getD i false) vs W) ((unhide M).drew) ?_ ?_)
 · intro ix o' hi ho a' w2 l vs hls hlf hJ hout hin hdep hnot
   match ix,ho with
   | 0,ho=>
     obtain rfl:=Oj9 ho
     have e0:=hout 0 (by kernel_rfl)
     replace e0:a'.eval (.tmp 0)=_:=e0.trans rfl
     exact wp_move (.tmp 0) rfl _ e0 ⟨_,rfl,told_of rfl,keepG [6] SD1.loc (by omega) (by decide) hJ⟩
   | 1,ho=>
     obtain rfl:=Oj9 ho
     have e0:=hout 3 (by kernel_rfl)
     replace e0:a'.eval (.tmp 3)=_:=e0.trans rfl
     exact o_fld65_1 (.tmp 3) rfl b3 (0) (1) rfl e0 ⟨_,rfl,told_of rfl,keepG [6] SD1.loc (by omega) (by decide) hJ⟩
   | 2,ho=>
     obtain rfl:=Oj9 ho
     have e0:a'.eval (.tmp 132)= .pointer (some ⟨b3,1,none⟩):=by have h9:=hin 1 132 (by kernel_rfl) (by kernel_rfl);exact h9.1.trans (told_is _ h9.2 rfl)
     exact o_load3 (.tmp 132) rfl _ _ e0 (fits_cell (Mm.at hJ 1 _ rfl) 1 _ rfl) ⟨_,rfl,told_of rfl,keepG [6] SD1.loc (by omega) (by decide) hJ⟩
   | 3,ho=>
     obtain rfl:=Oj9 ho
     have e0:a'.eval (.tmp 131)=P0 z:=by have h9:=hin 0 131 (by kernel_rfl) (by kernel_rfl);exact h9.1.trans (told_is _ h9.2 rfl)
     exact o_nil (.tmp 131) rfl _ e0 ⟨_,rfl,told_of rfl,keepG [6] SD1.loc (by omega) (by decide) hJ⟩
   | 4,ho=>
     obtain rfl:=Oj9 ho
     have e0:a'.eval (.tmp 134)=P0 z:=by have h9:=hin 3 134 (by kernel_rfl) (by kernel_rfl);exact h9.1.trans (told_is _ h9.2 rfl)
     exact o_fld55_1 (.tmp 134) rfl z (0) (1) rfl e0 ⟨_,rfl,told_of rfl,keepG [6] SD1.loc (by omega) (by decide) hJ⟩
   | 5,ho=>
     obtain rfl:=Oj9 ho
     have e0:a'.eval (.tmp 135)= .pointer (some ⟨z,1,none⟩):=by have h9:=hin 4 135 (by kernel_rfl) (by kernel_rfl);exact h9.1.trans (told_is _ h9.2 rfl)
     have e1:a'.eval (.tmp 133)= .int .i64 t:=by have h9:=hin 2 133 (by kernel_rfl) (by kernel_rfl);exact h9.1.trans (told_is _ h9.2 rfl)
     exact o_idx53 (.tmp 135) (.tmp 133) rfl z (1) t (1+t) (by assumption) rfl e0 e1 ⟨_,rfl,told_of rfl,keepG [6] SD1.loc (by omega) (by decide) hJ⟩
   | 6,ho=>
     obtain rfl:=Oj9 ho
     have e0:a'.eval (.tmp 136)= .pointer (some ⟨z,1+t,none⟩):=by have h9:=hin 5 136 (by kernel_rfl) (by kernel_rfl);exact h9.1.trans (told_is _ h9.2 rfl)
     exact o_st1 size31 (.tmp 136) _ rfl rfl z (1+t) 0 (.int .i64 0) ⟨rfl,rfl⟩ e0 rfl (SD1.no hJ hlf) rfl (by show 1+t<17;omega) (nd_setM b _ _ t (by assumption) _) (fun W hM=>⟨undef,rfl,told_no rfl,nextG (by omega) hM⟩)
 intro l_ vs4 V2 hl hJ htold
 have t0:vs4 0=P0 z:=told_is _ (htold 0 (by decide)) rfl
 have t1:vs4 1= .pointer (some ⟨b3,1,none⟩):=told_is _ (htold 1 (by decide)) rfl
 have t2:vs4 2= .int .i64 t:=told_is _ (htold 2 (by decide)) rfl
 have t3:vs4 3=P0 z:=told_is _ (htold 3 (by decide)) rfl
 have t4:vs4 4= .pointer (some ⟨z,1,none⟩):=told_is _ (htold 4 (by decide)) rfl
 have t5:vs4 5= .pointer (some ⟨z,1+t,none⟩):=told_is _ (htold 5 (by decide)) rfl
 rw [show (List.range 7).map vs4= [vs4 0,vs4 1,vs4 2,vs4 3,vs4 4,vs4 5,vs4 6] from rfl]
 simp only [t0,t1,t2,t3,t4,t5,putAll,Act.put,List.setIfInBounds_toArray,List.set_cons_succ,List.set_cons_zero]
 clear t0 t1 t2 t3 t4 t5 htold
 have hM4:Mm [z] w V2 ([(z,55,ndC b (upd m t 0) o),(b3,65,Od.C (⟨4,t,c,d,n,p⟩:Od))]):=SD1.yes hJ (hl 6 (by decide))
 replace M:Hid (Mm [z] w V2 [(z,55,ndC b (upd m t 0) o),(b3,65,Od.C (⟨4,t,c,d,n,p⟩:Od))]):=hide hM4
 clear hM4 hJ hl
 go_wp2_with fail
 have hP:PG A base w z b b3 (upd m t 0) (o) s L ln (⟨4,t,c,d,n,p⟩:Od) V2:=⟨(unhide M).kept,(unhide M).at 1 _ rfl,(unhide HN).put (unhide M).kept ((unhide M).at 0 _ rfl)⟩
 clear M HN
 have HP:=hide hP
 clear hP
 refine wp_region_any mixed (wpAny_gx 13 rfl (by kernel_rfl) [some (P0 z),some (P0 z),some (P0 z),some (P0 b),some (.pointer (some ⟨b3,1,none⟩)),some (.int .i64 t),some (.pointer (some ⟨b3,2,none⟩)),some (.int .i64 c),none,some (P0 z),some (.bool (rightB (upd m t 0))),none,some (.bool (rightB (upd m t 0)))] rfl (by kernel_rfl) (fun l vs W=>(SG (PG A base w z b b3 (upd m t 0) (o) s L ln (⟨4,t,c,d,n,p⟩:Od)) (RG (A+1) base w z b b3 (upd m t 0) (o) ln (goneP s L t c) (⟨4,t,c,d,n,p⟩:Od)) 8 11) (fun i=>l.getD i false) vs W) (⟨fun _=>⟨(unhide HP).1.drew,(unhide HP).2.1.drew,(unhide HP).2.2.step (Kept.refl [] _).drew⟩,(fun h=>by cases h),fun h=>by cases h⟩) ?_ ?_)
 · intro ix o' hi ho a' w2 l vs hls hlf hJ hout hin hdep hnot
   match ix,ho with
   | 0,ho=>
     obtain rfl:=Oj9 ho
     have e0:=hout 0 (by kernel_rfl)
     replace e0:a'.eval (.tmp 0)=_:=e0.trans rfl
     exact wp_move (.tmp 0) rfl _ e0 ⟨_,rfl,told_of rfl,keepG [8,11] SG.loc (by omega) (by decide) hJ⟩
   | 1,ho=>
     obtain rfl:=Oj9 ho
     have e0:a'.eval (.tmp 137)=P0 z:=by have h9:=hin 0 137 (by kernel_rfl) (by kernel_rfl);exact h9.1.trans (told_is _ h9.2 rfl)
     exact o_nil (.tmp 137) rfl _ e0 ⟨_,rfl,told_of rfl,keepG [8,11] SG.loc (by omega) (by decide) hJ⟩
   | 2,ho=>
     obtain rfl:=Oj9 ho
     have e0:a'.eval (.tmp 138)=P0 z:=by have h9:=hin 1 138 (by kernel_rfl) (by kernel_rfl);exact h9.1.trans (told_is _ h9.2 rfl)
     exact o_fld55_0 (.tmp 138) rfl z (0) (0) rfl e0 ⟨_,rfl,told_of rfl,keepG [8,11] SG.loc (by omega) (by decide) hJ⟩
   | 3,ho=>
     obtain rfl:=Oj9 ho
     have e0:a'.eval (.tmp 139)=P0 z:=by have h9:=hin 2 139 (by kernel_rfl) (by kernel_rfl);exact h9.1.trans (told_is _ h9.2 rfl)
     exact o_load24 (.tmp 139) rfl _ _ e0 (fits_cell hJ.b3.2 0 _ rfl) ⟨_,rfl,told_of rfl,keepG [8,11] SG.loc (by omega) (by decide) hJ⟩
   | 4,ho=>
     obtain rfl:=Oj9 ho
     have e0:=hout 3 (by kernel_rfl)
     replace e0:a'.eval (.tmp 3)=_:=e0.trans rfl
     exact o_fld65_1 (.tmp 3) rfl b3 (0) (1) rfl e0 ⟨_,rfl,told_of rfl,keepG [8,11] SG.loc (by omega) (by decide) hJ⟩
   | 5,ho=>
     obtain rfl:=Oj9 ho
     have e0:a'.eval (.tmp 141)= .pointer (some ⟨b3,1,none⟩):=by have h9:=hin 4 141 (by kernel_rfl) (by kernel_rfl);exact h9.1.trans (told_is _ h9.2 rfl)
     exact o_load3 (.tmp 141) rfl _ _ e0 (fits_cell hJ.b3.1 1 _ rfl) ⟨_,rfl,told_of rfl,keepG [8,11] SG.loc (by omega) (by decide) hJ⟩
   | 6,ho=>
     obtain rfl:=Oj9 ho
     have e0:=hout 3 (by kernel_rfl)
     replace e0:a'.eval (.tmp 3)=_:=e0.trans rfl
     exact o_fld65_2 (.tmp 3) rfl b3 (0) (2) rfl e0 ⟨_,rfl,told_of rfl,keepG [8,11] SG.loc (by omega) (by decide) hJ⟩
   | 7,ho=>
     obtain rfl:=Oj9 ho
     have e0:a'.eval (.tmp 143)= .pointer (some ⟨b3,2,none⟩):=by have h9:=hin 6 143 (by kernel_rfl) (by kernel_rfl);exact h9.1.trans (told_is _ h9.2 rfl)
     exact o_load2 (.tmp 143) rfl _ _ e0 (fits_cell hJ.b3.1 2 _ rfl) ⟨_,rfl,told_of rfl,keepG [8,11] SG.loc (by omega) (by decide) hJ⟩
   | 8,ho=>
     obtain rfl:=Oj9 ho
     have e0:a'.eval (.tmp 140)=P0 b:=by have h9:=hin 3 140 (by kernel_rfl) (by kernel_rfl);exact h9.1.trans (told_is _ h9.2 rfl)
     have e1:a'.eval (.tmp 142)= .int .i64 t:=by have h9:=hin 5 142 (by kernel_rfl) (by kernel_rfl);exact h9.1.trans (told_is _ h9.2 rfl)
     have e2:a'.eval (.tmp 144)= .int .i64 c:=by have h9:=hin 7 144 (by kernel_rfl) (by kernel_rfl);exact h9.1.trans (told_is _ h9.2 rfl)
     have hP9:=hJ.n1 hlf
     refine wp_callF 30 _ _ rfl #[P0 b,.int .i64 t,.int .i64 c] (by simp [e0,e1,e2]) (cg30 _ _) ((Nk.call hP9.2.2 (by omega) (fun hs=>gone30 s ln b L t c _ hs) (gone_gd hP9.2.2.gd)).mono ?_)
     rintro e w3 ⟨v3,ln3,rfl,N3,hN3,K3⟩
     exact⟨_,rfl,_,rfl,told_no rfl,nextG (by omega) (SG.call hJ (by decide) (hnot 11 (by kernel_rfl)) ⟨(hP9.1.mono (by simp)).trans (K3.mono (fun k hk=>List.mem_cons_of_mem _ hk)),hP9.2.1.kept K3 (hP9.2.2.far hP9.2.1 (by decide) (by decide)),ln3,New.elder N3 hP9.1.size,hN3⟩)⟩
   | 9,ho=>
     obtain rfl:=Oj9 ho
     have e0:=hout 0 (by kernel_rfl)
     replace e0:a'.eval (.tmp 0)=_:=e0.trans rfl
     exact wp_move (.tmp 0) rfl _ e0 ⟨_,rfl,told_of rfl,keepG [8,11] SG.loc (by omega) (by decide) hJ⟩
   | 10,ho=>
     obtain rfl:=Oj9 ho
     have e0:a'.eval (.tmp 146)=P0 z:=by have h9:=hin 9 146 (by kernel_rfl) (by kernel_rfl);exact h9.1.trans (told_is _ h9.2 rfl)
     refine wp_callF 56 _ _ rfl #[P0 z] (by simp [e0]) (cg56 _ _) ((right56 z b _ _ _ hJ.b3.2).mono ?_)
     rintro e w3 ⟨rfl,q3⟩
     replace q3:=q3.symm
     subst q3
     exact⟨_,rfl,_,rfl,told_of rfl,keepG [8,11] SG.loc (by omega) (by decide) hJ⟩
   | 11,ho=>
     obtain rfl:=Oj9 ho
     have e0:a'.eval (.tmp 145)=vs 8:=(hin 8 145 (by kernel_rfl) (by kernel_rfl)).1
     exact wp_assignV (.tmp 145) rfl _ e0 ⟨_,rfl,told_no rfl,nextG (by omega) (SG.as _ _ hJ (by decide) (hdep 8 (by kernel_rfl)))⟩
   | 12,ho=>
     obtain rfl:=Oj9 ho
     have e0:a'.eval (.tmp 147)= .bool (rightB (upd m t 0)):=by have h9:=hin 10 147 (by kernel_rfl) (by kernel_rfl);exact h9.1.trans (told_is _ h9.2 rfl)
     exact wp_assignV (.tmp 147) rfl _ e0 ⟨_,rfl,told_of rfl,keepG [8,11] SG.loc (by omega) (by decide) hJ⟩
 intro l_ vs4 V9 hl hJ htold
 have t0:vs4 0=P0 z:=told_is _ (htold 0 (by decide)) rfl
 have t1:vs4 1=P0 z:=told_is _ (htold 1 (by decide)) rfl
 have t2:vs4 2=P0 z:=told_is _ (htold 2 (by decide)) rfl
 have t3:vs4 3=P0 b:=told_is _ (htold 3 (by decide)) rfl
 have t4:vs4 4= .pointer (some ⟨b3,1,none⟩):=told_is _ (htold 4 (by decide)) rfl
 have t5:vs4 5= .int .i64 t:=told_is _ (htold 5 (by decide)) rfl
 have t6:vs4 6= .pointer (some ⟨b3,2,none⟩):=told_is _ (htold 6 (by decide)) rfl
 have t7:vs4 7= .int .i64 c:=told_is _ (htold 7 (by decide)) rfl
 have t9:vs4 9=P0 z:=told_is _ (htold 9 (by decide)) rfl
 have t10:vs4 10= .bool (rightB (upd m t 0)):=told_is _ (htold 10 (by decide)) rfl
 have t12:vs4 12= .bool (rightB (upd m t 0)):=told_is _ (htold 12 (by decide)) rfl
 rw [show (List.range 13).map vs4= [vs4 0,vs4 1,vs4 2,vs4 3,vs4 4,vs4 5,vs4 6,vs4 7,vs4 8,vs4 9,vs4 10,vs4 11,vs4 12] from rfl]
 simp only [t0,t1,t2,t3,t4,t5,t6,t7,t9,t10,t12,putAll,Act.put,List.setIfInBounds_toArray,List.set_cons_succ,List.set_cons_zero]
 clear t0 t1 t2 t3 t4 t5 t6 t7 t9 t10 t12 htold
 obtain⟨hk9,_,ln9,hO9,hN9⟩:=hJ.n2 (hl 8 (by decide))
 obtain⟨_,e9⟩:=hJ.a1 (hl 11 (by decide))
 rw [e9]
 generalize vs4 8=v9 at hO9⊢
 have HO9:=hide hO9
 have HN9:=hide hN9
 have HK9:=hide hk9
 clear hO9 hN9 hk9 e9 hJ hl HP
 go_wp2_with fail
 go_ret2
 exact⟨v9,ln9,rfl,unhide HO9,unhide HN9,unhide HK9⟩
set_option maxHeartbeats 8000000 in
theorem does23_5 (t n:Nat) (c d p:Int) (ht:t<8) (hn:n<8) (w:World) (h:Nk A base w z b m o s L ln) (hA:A≤800):Calls Try.prog 23 #[P0 z,aggV (Od.C (⟨5,t,c,d,n,p⟩:Od))] w (DN (A+1) base w z b ln (m) (o) (wroteP s L t (o t) 1) (rightB (m))):=by
 have M:=hide (Mm.one h.zb)
 have HN:=hide h
 have htI:(t:Int)<8:=by omega
 have hnI:(n:Int)<8:=by omega
 have q1:decide ((t:Int)<0)=false:=by simp
 have q2:decide ((t:Int)≥8)=false:=by simp;omega
 have q3:decide ((8:Int)≤(t:Int))=false:=by simp;omega
 have q4:decide ((n:Int)<0)=false:=by simp
 have q5:decide ((n:Int)≥8)=false:=by simp;omega
 have q6:decide ((8:Int)≤(n:Int))=false:=by simp;omega
 clear h
 go_enter Try.func23,Try.ntmps23
 go_wp2_with (first |(refine wpBoxV rfl (.tmp 1) rfl (Od.C (⟨5,t,c,d,n,p⟩:Od)) rfl ?_;intro W1 b3 e1 B1 K1;replace M:=hide ((unhide M).new e1 B1 K1);clear e1 B1 K1;have c0:W1.cell? ⟨b3,0,none⟩=some (.int .i64 5):=fits_cell ((unhide M).at 1 _ rfl) 0 _ rfl;have c1:W1.cell? ⟨b3,1,none⟩=some (.int .i64 t):=fits_cell ((unhide M).at 1 _ rfl) 1 _ rfl;have c4:W1.cell? ⟨b3,4,none⟩=some (.int .i64 n):=fits_cell ((unhide M).at 1 _ rfl) 4 _ rfl;refine Stp.go ?_))
 constructor
 go_wp2_with fail
 clear c0 c1 c4
 have hP:PG A base w z b b3 (m) (o) s L ln (⟨5,t,c,d,n,p⟩:Od) W1:=⟨(unhide M).kept,(unhide M).at 1 _ rfl,(unhide HN).put (unhide M).kept ((unhide M).at 0 _ rfl)⟩
 clear M HN
 have HP:=hide hP
 clear hP
 refine wp_region_any mixed (wpAny_gx 18 rfl (by kernel_rfl) [some (P0 z),some (P0 z),some (P0 z),some (P0 b),some (.pointer (some ⟨b3,1,none⟩)),some (.int .i64 t),some (P0 z),some (.pointer (some ⟨b3,1,none⟩)),some (.int .i64 t),some (P0 z),some (.pointer (some ⟨z,9,none⟩)),some (.pointer (some ⟨z,9+t,none⟩)),some (.int .i64 (o t)),none,some (P0 z),some (.bool (rightB (m))),none,some (.bool (rightB (m)))] rfl (by kernel_rfl) (fun l vs W=>(SG (PG A base w z b b3 (m) (o) s L ln (⟨5,t,c,d,n,p⟩:Od)) (RG (A+1) base w z b b3 (m) (o) ln (wroteP s L t (o t) 1) (⟨5,t,c,d,n,p⟩:Od)) 13 16) (fun i=>l.getD i false) vs W) (⟨fun _=>⟨(unhide HP).1.drew,(unhide HP).2.1.drew,(unhide HP).2.2.step (Kept.refl [] _).drew⟩,(fun h=>by cases h),fun h=>by cases h⟩) ?_ ?_)
 · intro ix o' hi ho a' w2 l vs hls hlf hJ hout hin hdep hnot
   match ix,ho with
   | 0,ho=>
     obtain rfl:=Oj9 ho
     have e0:=hout 0 (by kernel_rfl)
     replace e0:a'.eval (.tmp 0)=_:=e0.trans rfl
     exact wp_move (.tmp 0) rfl _ e0 ⟨_,rfl,told_of rfl,keepG [13,16] SG.loc (by omega) (by decide) hJ⟩
   | 1,ho=>
     obtain rfl:=Oj9 ho
     have e0:a'.eval (.tmp 150)=P0 z:=by have h9:=hin 0 150 (by kernel_rfl) (by kernel_rfl);exact h9.1.trans (told_is _ h9.2 rfl)
     exact o_nil (.tmp 150) rfl _ e0 ⟨_,rfl,told_of rfl,keepG [13,16] SG.loc (by omega) (by decide) hJ⟩
   | 2,ho=>
     obtain rfl:=Oj9 ho
     have e0:a'.eval (.tmp 151)=P0 z:=by have h9:=hin 1 151 (by kernel_rfl) (by kernel_rfl);exact h9.1.trans (told_is _ h9.2 rfl)
     exact o_fld55_0 (.tmp 151) rfl z (0) (0) rfl e0 ⟨_,rfl,told_of rfl,keepG [13,16] SG.loc (by omega) (by decide) hJ⟩
   | 3,ho=>
     obtain rfl:=Oj9 ho
     have e0:a'.eval (.tmp 152)=P0 z:=by have h9:=hin 2 152 (by kernel_rfl) (by kernel_rfl);exact h9.1.trans (told_is _ h9.2 rfl)
     exact o_load24 (.tmp 152) rfl _ _ e0 (fits_cell hJ.b3.2 0 _ rfl) ⟨_,rfl,told_of rfl,keepG [13,16] SG.loc (by omega) (by decide) hJ⟩
   | 4,ho=>
     obtain rfl:=Oj9 ho
     have e0:=hout 3 (by kernel_rfl)
     replace e0:a'.eval (.tmp 3)=_:=e0.trans rfl
     exact o_fld65_1 (.tmp 3) rfl b3 (0) (1) rfl e0 ⟨_,rfl,told_of rfl,keepG [13,16] SG.loc (by omega) (by decide) hJ⟩
   | 5,ho=>
     obtain rfl:=Oj9 ho
     have e0:a'.eval (.tmp 154)= .pointer (some ⟨b3,1,none⟩):=by have h9:=hin 4 154 (by kernel_rfl) (by kernel_rfl);exact h9.1.trans (told_is _ h9.2 rfl)
     exact o_load3 (.tmp 154) rfl _ _ e0 (fits_cell hJ.b3.1 1 _ rfl) ⟨_,rfl,told_of rfl,keepG [13,16] SG.loc (by omega) (by decide) hJ⟩
   | 6,ho=>
     obtain rfl:=Oj9 ho
     have e0:=hout 0 (by kernel_rfl)
     replace e0:a'.eval (.tmp 0)=_:=e0.trans rfl
     exact wp_move (.tmp 0) rfl _ e0 ⟨_,rfl,told_of rfl,keepG [13,16] SG.loc (by omega) (by decide) hJ⟩
   | 7,ho=>
     obtain rfl:=Oj9 ho
     have e0:=hout 3 (by kernel_rfl)
     replace e0:a'.eval (.tmp 3)=_:=e0.trans rfl
     exact o_fld65_1 (.tmp 3) rfl b3 (0) (1) rfl e0 ⟨_,rfl,told_of rfl,keepG [13,16] SG.loc (by omega) (by decide) hJ⟩
   | 8,ho=>
     obtain rfl:=Oj9 ho
     have e0:a'.eval (.tmp 157)= .pointer (some ⟨b3,1,none⟩):=by have h9:=hin 7 157 (by kernel_rfl) (by kernel_rfl);exact h9.1.trans (told_is _ h9.2 rfl)
     exact o_load3 (.tmp 157) rfl _ _ e0 (fits_cell hJ.b3.1 1 _ rfl) ⟨_,rfl,told_of rfl,keepG [13,16] SG.loc (by omega) (by decide) hJ⟩
   | 9,ho=>
     obtain rfl:=Oj9 ho
     have e0:a'.eval (.tmp 156)=P0 z:=by have h9:=hin 6 156 (by kernel_rfl) (by kernel_rfl);exact h9.1.trans (told_is _ h9.2 rfl)
     exact o_nil (.tmp 156) rfl _ e0 ⟨_,rfl,told_of rfl,keepG [13,16] SG.loc (by omega) (by decide) hJ⟩
   | 10,ho=>
     obtain rfl:=Oj9 ho
     have e0:a'.eval (.tmp 159)=P0 z:=by have h9:=hin 9 159 (by kernel_rfl) (by kernel_rfl);exact h9.1.trans (told_is _ h9.2 rfl)
     exact o_fld55_2 (.tmp 159) rfl z (0) (9) rfl e0 ⟨_,rfl,told_of rfl,keepG [13,16] SG.loc (by omega) (by decide) hJ⟩
   | 11,ho=>
     obtain rfl:=Oj9 ho
     have e0:a'.eval (.tmp 160)= .pointer (some ⟨z,9,none⟩):=by have h9:=hin 10 160 (by kernel_rfl) (by kernel_rfl);exact h9.1.trans (told_is _ h9.2 rfl)
     have e1:a'.eval (.tmp 158)= .int .i64 t:=by have h9:=hin 8 158 (by kernel_rfl) (by kernel_rfl);exact h9.1.trans (told_is _ h9.2 rfl)
     exact o_idx37 (.tmp 160) (.tmp 158) rfl z (9) t (9+t) (by assumption) rfl e0 e1 ⟨_,rfl,told_of rfl,keepG [13,16] SG.loc (by omega) (by decide) hJ⟩
   | 12,ho=>
     obtain rfl:=Oj9 ho
     have e0:a'.eval (.tmp 161)= .pointer (some ⟨z,9+t,none⟩):=by have h9:=hin 11 161 (by kernel_rfl) (by kernel_rfl);exact h9.1.trans (told_is _ h9.2 rfl)
     exact o_load2 (.tmp 161) rfl _ _ e0 (fits_cell hJ.b3.2 (9+t) _ (nd_o _ _ _ t (by assumption))) ⟨_,rfl,told_of rfl,keepG [13,16] SG.loc (by omega) (by decide) hJ⟩
   | 13,ho=>
     obtain rfl:=Oj9 ho
     have e0:a'.eval (.tmp 153)=P0 b:=by have h9:=hin 3 153 (by kernel_rfl) (by kernel_rfl);exact h9.1.trans (told_is _ h9.2 rfl)
     have e1:a'.eval (.tmp 155)= .int .i64 t:=by have h9:=hin 5 155 (by kernel_rfl) (by kernel_rfl);exact h9.1.trans (told_is _ h9.2 rfl)
     have e2:a'.eval (.tmp 162)= .int .i64 (o t):=by have h9:=hin 12 162 (by kernel_rfl) (by kernel_rfl);exact h9.1.trans (told_is _ h9.2 rfl)
     have hP9:=hJ.n1 hlf
     refine wp_callF 31 _ _ rfl #[P0 b,.int .i64 t,.int .i64 (o t),.int .i64 1] (by simp [e0,e1,e2];rfl) (cg31 _ _) ((Nk.call hP9.2.2 (by omega) (fun hs=>wrote31 s ln b L t (o t) 1 _ hs) (wrote_gd hP9.2.2.gd)).mono ?_)
     rintro e w3 ⟨v3,ln3,rfl,N3,hN3,K3⟩
     exact⟨_,rfl,_,rfl,told_no rfl,nextG (by omega) (SG.call hJ (by decide) (hnot 16 (by kernel_rfl)) ⟨(hP9.1.mono (by simp)).trans (K3.mono (fun k hk=>List.mem_cons_of_mem _ hk)),hP9.2.1.kept K3 (hP9.2.2.far hP9.2.1 (by decide) (by decide)),ln3,New.elder N3 hP9.1.size,hN3⟩)⟩
   | 14,ho=>
     obtain rfl:=Oj9 ho
     have e0:=hout 0 (by kernel_rfl)
     replace e0:a'.eval (.tmp 0)=_:=e0.trans rfl
     exact wp_move (.tmp 0) rfl _ e0 ⟨_,rfl,told_of rfl,keepG [13,16] SG.loc (by omega) (by decide) hJ⟩
   | 15,ho=>
     obtain rfl:=Oj9 ho
     have e0:a'.eval (.tmp 164)=P0 z:=by have h9:=hin 14 164 (by kernel_rfl) (by kernel_rfl);exact h9.1.trans (told_is _ h9.2 rfl)
     refine wp_callF 56 _ _ rfl #[P0 z] (by simp [e0]) (cg56 _ _) ((right56 z b _ _ _ hJ.b3.2).mono ?_)
     rintro e w3 ⟨rfl,q3⟩
     replace q3:=q3.symm
     subst q3
     exact⟨_,rfl,_,rfl,told_of rfl,keepG [13,16] SG.loc (by omega) (by decide) hJ⟩
   | 16,ho=>
     obtain rfl:=Oj9 ho
     have e0:a'.eval (.tmp 163)=vs 13:=(hin 13 163 (by kernel_rfl) (by kernel_rfl)).1
     exact wp_assignV (.tmp 163) rfl _ e0 ⟨_,rfl,told_no rfl,nextG (by omega) (SG.as _ _ hJ (by decide) (hdep 13 (by kernel_rfl)))⟩
   | 17,ho=>
     obtain rfl:=Oj9 ho
     have e0:a'.eval (.tmp 165)= .bool (rightB (m)):=by have h9:=hin 15 165 (by kernel_rfl) (by kernel_rfl);exact h9.1.trans (told_is _ h9.2 rfl)
     exact wp_assignV (.tmp 165) rfl _ e0 ⟨_,rfl,told_of rfl,keepG [13,16] SG.loc (by omega) (by decide) hJ⟩
 intro l_ vs4 V9 hl hJ htold
 have t0:vs4 0=P0 z:=told_is _ (htold 0 (by decide)) rfl
 have t1:vs4 1=P0 z:=told_is _ (htold 1 (by decide)) rfl
 have t2:vs4 2=P0 z:=told_is _ (htold 2 (by decide)) rfl
 have t3:vs4 3=P0 b:=told_is _ (htold 3 (by decide)) rfl
 have t4:vs4 4= .pointer (some ⟨b3,1,none⟩):=told_is _ (htold 4 (by decide)) rfl
 have t5:vs4 5= .int .i64 t:=told_is _ (htold 5 (by decide)) rfl
 have t6:vs4 6=P0 z:=told_is _ (htold 6 (by decide)) rfl
 have t7:vs4 7= .pointer (some ⟨b3,1,none⟩):=told_is _ (htold 7 (by decide)) rfl
 have t8:vs4 8= .int .i64 t:=told_is _ (htold 8 (by decide)) rfl
 have t9:vs4 9=P0 z:=told_is _ (htold 9 (by decide)) rfl
 have t10:vs4 10= .pointer (some ⟨z,9,none⟩):=told_is _ (htold 10 (by decide)) rfl
 have t11:vs4 11= .pointer (some ⟨z,9+t,none⟩):=told_is _ (htold 11 (by decide)) rfl
 have t12:vs4 12= .int .i64 (o t):=told_is _ (htold 12 (by decide)) rfl
 have t14:vs4 14=P0 z:=told_is _ (htold 14 (by decide)) rfl
 have t15:vs4 15= .bool (rightB (m)):=told_is _ (htold 15 (by decide)) rfl
 have t17:vs4 17= .bool (rightB (m)):=told_is _ (htold 17 (by decide)) rfl
 rw [show (List.range 18).map vs4= [vs4 0,vs4 1,vs4 2,vs4 3,vs4 4,vs4 5,vs4 6,vs4 7,vs4 8,vs4 9,vs4 10,vs4 11,vs4 12,vs4 13,vs4 14,vs4 15,vs4 16,vs4 17] from rfl]
 simp only [t0,t1,t2,t3,t4,t5,t6,t7,t8,t9,t10,t11,t12,t14,t15,t17,putAll,Act.put,List.setIfInBounds_toArray,List.set_cons_succ,List.set_cons_zero]
 clear t0 t1 t2 t3 t4 t5 t6 t7 t8 t9 t10 t11 t12 t14 t15 t17 htold
 obtain⟨hk9,_,ln9,hO9,hN9⟩:=hJ.n2 (hl 13 (by decide))
 obtain⟨_,e9⟩:=hJ.a1 (hl 16 (by decide))
 rw [e9]
 generalize vs4 13=v9 at hO9⊢
 have HO9:=hide hO9
 have HN9:=hide hN9
 have HK9:=hide hk9
 clear hO9 hN9 hk9 e9 hJ hl HP
 go_wp2_with fail
 go_ret2
 exact⟨v9,ln9,rfl,unhide HO9,unhide HN9,unhide HK9⟩
end Go.Proofs.Ytabicgbnloabnaa
