import Derived.Test.YtbigongmlpoahaaUDj
namespace Go.Proofs.Ytbigongmlpoahaa.D
set_option maxHeartbeats 4000000
set_option maxRecDepth 100000
set_option linter.unusedSimpArgs false
open Go.RowKit
def zl:List Value:= .bool false::((⟨0,0,no8,ze8,no8,0,0,0,0,no8⟩:Lo).C (.slice none 0 0)).tail
theorem zero108 (w:World):(Instr.alloc 108 true (.tuple #[])).run Try.prog w= .ok (P0 w.heap.size) (w.alloc (.cells zl.toArray 108)):=by kernel_rfl
section
variable {o op:Oper} {ops:Array Oper} {rest:List Oper} {a:Act} {w:World} {K:Act→World→Prop} {Q:Exit→Act→World→Prop}
theorem o_allocZ {T:Nat} (vs:List Value) (hr:∀w:World,(Instr.alloc T true (.tuple #[])).run Try.prog w= .ok (P0 w.heap.size) (w.alloc (.cells vs.toArray T))) (ho:o.op= .alloc T) (h:∀W b,b=w.heap.size→Blk W b T vs→Kept [] w W→K (a.put o.dst (P0 b)) W):o.wp Try.prog a w K Q:=by
 unfold Oper.wp execOp
 simp only [ho,Sem.run_bind,hr,Result.andThen_ok]
 exact h _ _ rfl (Blk.new w T vs) ((Kept.refl _ _).alloc _)
theorem o_stB {T m:Nat} (hT:Row T m) (x y:Operand) (ho:o.op= .store T x y) (b:Nat) (vs us:List Value) (hx:a.eval x=P0 b) (hy:a.eval y=aggV vs) (hl:vs.length=m) (hu:us.length=m) (_:0<m) (h1:∀v∈vs,v.oneCell'=true) (hB:Blk w b T us)
   (h:∀W,Blk W b T vs→Kept [b] w W→K (a.put o.dst undef) W):o.wp Try.prog a w K Q:=by
 obtain⟨dd,g1,g2,g3⟩:=hT
 have:=run_storeVar_mid (P:=Try.prog) w b 0 T vs.toArray (by simpa [hl] using hB.there (by omega)) (by simpa [hl] using g3) (all_oneCell_toArray h1)
 have hy':a.eval y= .agg vs.toArray:=hy
 unfold Oper.wp execOp
 simp only [ho,hx,hy',Instr.storeAt,Instr.sureAddr,Sem.run_bind,Sem.run_pure,Result.andThen_ok,this]
 exact h _ (hB.put (by omega)) ((Kept.refl _ _).setCells _ _ (by simp))
end
theorem capD {W:World} {e z n c:Nat} {ao:Option Addr} {xs:List Value} (h:Rw W e z (.slice ao n c) n xs):Rw W e z (.slice ao n n) n xs:=by
 refine⟨h.len,?_⟩
 rcases h.lie with ⟨h1,h2⟩ | ⟨g,off,cap,cur,h1,h2,h3,h4,h5,h6⟩
 · cases h1
   exact .inl ⟨rfl,rfl⟩
 · cases h1
   have hc:n*z≤c*z:=Nat.mul_le_mul_right _ h3
   exact .inr ⟨g,off,n,cur,rfl,h2,Nat.le_refl _,by omega,by omega,h6⟩
theorem LoC_one {s:Lo} {ln:Value} (h:ln.oneCell'=true):∀v∈s.C ln,v.oneCell'=true:=by
 intro v hv
 simp only [Lo.C,List.mem_cons,List.mem_nil_iff,or_false] at hv
 rcases hv with rfl | rfl | rfl | rfl | rfl | rfl | rfl | rfl | rfl | rfl | rfl | rfl | rfl | rfl | rfl | rfl | rfl | rfl | rfl | rfl | rfl | rfl | rfl | rfl | rfl | rfl | rfl | rfl | rfl | rfl | rfl | rfl | rfl | rfl | rfl | rfl | rfl | rfl | rfl | rfl <;> first | rfl | assumption
@[reducible] def SC (w:World) (cs:List Value) (d:Nat→Bool) (vs:Nat→Value) (W:World):Prop:=
 Kept [] w W∧(d 8=true→∃g,vs 8=P0 g∧w.heap.size≤g∧Blk W g 108 (if d 9=true then cs else zl))
theorem SC.loc {w:World} {cs:List Value} :∀d d' vs vs' W,(∀i∈ [8,9],d i=d' i∧vs i=vs' i)→SC w cs d vs W→SC w cs d' vs' W:=by
 intro d d' vs vs' W H h
 obtain⟨e0,e1⟩:=H 8 (by simp)
 obtain⟨e2,e3⟩:=H 9 (by simp)
 unfold SC at h⊢
 rw [← e0,← e1,← e2]
 exact h
theorem SC.make {w W W':World} {cs:List Value} {d:Nat→Bool} {vs:Nat→Value} {g:Nat} (h:SC w cs d vs W) (h9:d 9=false) (hg:g=W.heap.size) (hB:Blk W' g 108 zl) (hK:Kept [] W W'):SC w cs (fun i=>if i=8 then true else d i) (fun i=>if i=8 then P0 g else vs i) W':=by
 refine⟨h.1.trans hK,fun _=>⟨g,by simp,by rw [hg];exact h.1.size,?_⟩⟩
 simpa [h9] using hB
theorem SC.put {w W W':World} {cs:List Value} {d:Nat→Bool} {vs:Nat→Value} {g:Nat} {u:Value} (h:SC w cs d vs W) (_:d 8=true) (hv:vs 8=P0 g) (hg:w.heap.size≤g) (hB:Blk W' g 108 cs) (hK:Kept [g] W W'):SC w cs (fun i=>if i=9 then true else d i) (fun i=>if i=9 then u else vs i) W':=by
 refine⟨h.1.fresh hK (fun i hi hl=>by simp at hi;omega),fun _=>⟨g,by simpa using hv,hg,?_⟩⟩
 simpa using hB
section
variable {o op:Oper} {ops:Array Oper} {rest:List Oper} {a:Act} {w:World} {K:Act→World→Prop} {Q:Exit→Act→World→Prop}
theorem wpSl3 (hgd:op.guard=none) (x y z:Operand) (ho:op.op= .slice 35 x none (some y) (some z)) (ao:Option Addr) (n c:Nat) (hn:n≤c) (hno:ao=none→n=0∧c=0) (hx:a.eval x= .slice ao n c) (hy:a.eval y= .int .i64 n) (hz:a.eval z= .int .i64 n) (h:wpList Try.prog ops Q rest (a.put op.dst (.slice ao n n)) w):wpList Try.prog ops Q (op::rest) a w:=
 wpList_plain hgd fun _ hK=>by
   unfold Oper.wp execOp
   simp only [ho,hx,hy,hz,Option.map_none,Option.map_some]
   cases ao with
   | none=>
     obtain⟨h1,h2⟩:=hno rfl
     subst h1 h2
     simp [go_sem]
     exact hK _ _ h
   | some ad=>
     obtain⟨g,off,sp⟩:=ad
     simp [go_sem,hn]
     exact hK _ _ h
theorem wpStF {T:Nat} (hs:(Try.prog.info? T).map (·.size)=some 1) (hgd:op.guard=none) (x y:Operand) (ho:op.op= .store T x y) (hd:op.dst=none) (b off:Nat) (v:Value) (h1:One v) (hx:a.eval x= .pointer (some ⟨b,off,none⟩)) (hy:a.eval y=v) {TT:Nat} {us:List Value} (hB:Blk w b TT us) (hl:off<us.length)
   (h:∀W,Blk W b TT (us.set off v)→Kept [b] w W→wpList Try.prog ops Q rest a W):wpList Try.prog ops Q (op::rest) a w:=
 wpList_plain hgd fun K hK=>by
   have hst:=storeVar1 hs hB hl v h1.1 h1.2
   unfold Oper.wp execOp
   simp only [ho,hx,hy,Instr.storeAt,Instr.sureAddr,Sem.run_bind,Sem.run_pure,Result.andThen_ok,hst]
   refine hK _ _ ?_
   rw [hd]
   exact h _ (hB.set v) ((Kept.refl _ _).setCell (by simp) v)
end
theorem size35:(Try.prog.info? 35).map (·.size)=some 1:=by kernel_rfl
variable {A:Nat} {w W:World} {x:Lk}
def Lk.cp (x:Lk) (p:Nat) (ln:Value):Lk:=⟨x.k,p,ln,x.s,x.q⟩
theorem copy39 (h:Lc A w x):Calls Try.prog 39 #[P0 x.p] w fun e W=>∃p ln,e= .returned (P0 p)∧w.heap.size≤p∧Lc A W (x.cp p ln)∧ln.ownBlock=x.ln.ownBlock∧spare ln= []∧Kept [] w W:=by
 obtain⟨cs,hcs⟩:∃c,x.s.C x.ln=c:=⟨_,rfl⟩
 obtain⟨ln,hln⟩:∃c,x.ln=c:=⟨_,rfl⟩
 obtain⟨b,hb⟩:∃c,x.p=c:=⟨_,rfl⟩
 obtain⟨q,hq⟩:∃c,x.q=c:=⟨_,rfl⟩
 obtain⟨n,hn⟩:∃c,q.length=c:=⟨_,rfl⟩
 have H:=hide h
 have HB:Hid (Blk w b 108 cs):=by rw [← hb,← hcs];exact h.blk
 have HR:Hid (Rw w 38 2 ln n (wsC q)):=by rw [← hn,← hq,← hln];exact h.row
 have HCL:Hid (cs.length=40):=by show _=_;rw [← hcs];rfl
 have HCE:Hid (w.cell? ⟨b,27,none⟩=some ln):=by rw [← hb,← hln];exact fits_cell h.blk 27 _ rfl
 have HC1:Hid (∀v∈cs,v.oneCell'=true):=by rw [← hcs];exact LoC_one h.row.one.1
 have HCS:Hid (x.s.C ln=cs):=by show _=_;rw [← hln];exact hcs
 rw [hb]
 go_enter Try.func39,Try.ntmps39
 go_wp2_with (first |(go_at_call 68;refine(none40 x.s ln b _ (by rw [show x.s.C ln=cs from unhide HCS];exact unhide HB)).mono ?_;rintro e W9 ⟨rfl,q9⟩;replace q9:=q9.symm;subst q9;refine Stp.go ?_))
 constructor
 go_upto_region 3 with fail
 refine wp_region_any mixed (wpAny_gx 11 rfl (by kernel_rfl) [some (P0 b),some (P0 b),some (aggV cs),some (P0 b),some (P0 b),some (.pointer (some ⟨b,27,none⟩)),some ln,some (.int .i64 n),none,none,some (.int .i64 n)] rfl (by kernel_rfl) (fun l vs W=>(SC w cs) (fun i=>l.getD i false) vs W) ⟨(Kept.refl _ _).drew,fun h9=>by simp at h9⟩ ?_ ?_)
 · intro ix o' hi ho a' w2 l vs hls hlf hJ hout hin hdep hnot
   match ix,ho with
   | 0,ho=>
     cases ho
     have e0:=ho9 hout 0
     replace e0:a'.eval (.tmp 0)=P0 b:=e0.trans rfl
     exact wp_move (.tmp 0) rfl _ e0 ⟨_,rfl,told_of rfl,keepG [8,9] SC.loc (by omega) (by decide) hJ⟩
   | 1,ho=>
     cases ho
     exact o_nil (.tmp 7) rfl _ (hx9 (hi9 hin 0 7) rfl) ⟨_,rfl,told_of rfl,keepG [8,9] SC.loc (by omega) (by decide) hJ⟩
   | 2,ho=>
     cases ho
     exact wp_loadA row75 (.tmp 8) rfl b 0 (hx9 (hi9 hin 1 8) rfl) cs (unhide HCL) ((unhide HB).kept hJ.1 (by simp)).range ⟨_,rfl,told_of rfl,keepG [8,9] SC.loc (by omega) (by decide) hJ⟩
   | 3,ho=>
     cases ho
     have e0:=ho9 hout 0
     replace e0:a'.eval (.tmp 0)=P0 b:=e0.trans rfl
     exact wp_move (.tmp 0) rfl _ e0 ⟨_,rfl,told_of rfl,keepG [8,9] SC.loc (by omega) (by decide) hJ⟩
   | 4,ho=>
     cases ho
     exact o_nil (.tmp 10) rfl _ (hx9 (hi9 hin 3 10) rfl) ⟨_,rfl,told_of rfl,keepG [8,9] SC.loc (by omega) (by decide) hJ⟩
   | 5,ho=>
     cases ho
     exact o_fld75_6 (.tmp 11) rfl b 0 27 rfl (hx9 (hi9 hin 4 11) rfl) ⟨_,rfl,told_of rfl,keepG [8,9] SC.loc (by omega) (by decide) hJ⟩
   | 6,ho=>
     cases ho
     exact o_load38 (.tmp 12) rfl _ _ (hx9 (hi9 hin 5 12) rfl) (hJ.1.cell (unhide HCE) (by simp)) ⟨_,rfl,told_of rfl,keepG [8,9] SC.loc (by omega) (by decide) hJ⟩
   | 7,ho=>
     cases ho
     exact o_len38 (.tmp 13) rfl ln n (wsC q) (hx9 (hi9 hin 6 13) rfl) ((unhide HR).kept hJ.1 (fun _ _=>by simp)) ⟨_,rfl,told_of rfl,keepG [8,9] SC.loc (by omega) (by decide) hJ⟩
   | 8,ho=>
     cases ho
     refine o_allocZ zl zero108 rfl (fun W g h1 h2 h3=> ?_)
     exact⟨_,rfl,told_no rfl,nextG (by omega) (SC.make hJ (ho9 hnot 9) h1 h2 h3)⟩
   | 9,ho=>
     cases ho
     have e0:a'.eval (.tmp 3)=vs 8:=(hi9 hin 8 3).1
     have e1:a'.eval (.tmp 9)=aggV cs:=hx9 (hi9 hin 2 9) rfl
     obtain⟨g,hv,hg,hB⟩:=hJ.2 (ho9 hdep 8)
     rw [hv] at e0
     rw [if_neg (by show ¬(l.getD 9 false=true);rw [hlf];decide)] at hB
     refine o_stB row75 (.tmp 3) (.tmp 9) rfl g cs zl e0 e1 (unhide HCL) rfl (by decide) (unhide HC1) hB (fun W h1 h2=> ?_)
     exact⟨_,rfl,told_no rfl,nextG (by omega) (SC.put hJ (ho9 hdep 8) hv hg h1 h2)⟩
   | 10,ho=>
     cases ho
     exact wp_assignV (.tmp 14) rfl _ (hx9 (hi9 hin 7 14) rfl) ⟨_,rfl,told_of rfl,keepG [8,9] SC.loc (by omega) (by decide) hJ⟩
 intro l_ vs4 V4 hl hJ htold
 have t0:vs4 0=P0 b:=told_is _ (htold 0 (by decide)) rfl
 have t1:vs4 1=P0 b:=told_is _ (htold 1 (by decide)) rfl
 have t2:vs4 2=aggV cs:=told_is _ (htold 2 (by decide)) rfl
 have t3:vs4 3=P0 b:=told_is _ (htold 3 (by decide)) rfl
 have t4:vs4 4=P0 b:=told_is _ (htold 4 (by decide)) rfl
 have t5:vs4 5= .pointer (some ⟨b,27,none⟩):=told_is _ (htold 5 (by decide)) rfl
 have t6:vs4 6=ln:=told_is _ (htold 6 (by decide)) rfl
 have t7:vs4 7= .int .i64 n:=told_is _ (htold 7 (by decide)) rfl
 have t10:vs4 10= .int .i64 n:=told_is _ (htold 10 (by decide)) rfl
 obtain⟨g,t8,hg,hB⟩:=hJ.2 (hl 8 (by decide))
 rw [if_pos (hl 9 (by decide))] at hB
 rw [show (List.range 11).map vs4= [vs4 0,vs4 1,vs4 2,vs4 3,vs4 4,vs4 5,vs4 6,vs4 7,vs4 8,vs4 9,vs4 10] from rfl]
 simp only [t0,t1,t2,t3,t4,t5,t6,t7,t8,t10,putAll,Act.put,List.setIfInBounds_toArray,List.set_cons_succ,List.set_cons_zero]
 have HK:=hide hJ.1
 have HG:=hide hg
 have HGB:=hide hB
 have c27:=(unhide HK).cell (unhide HCE) (by simp)
 have k27:=fits_cell hB 27 _ (by rw [← unhide HCS];rfl)
 clear t0 t1 t2 t3 t4 t5 t6 t7 t8 t10 htold hl hJ hg hB
 obtain⟨ao,c,hv,hnc,hno⟩:=(unhide HR).sl
 subst hv
 have hone:One (.slice ao n n):=(capD (unhide HR)).one
 go_wp2_with (first |(refine wpSl3 rfl (.tmp 18) (.tmp 19) (.tmp 20) rfl ao n c hnc hno rfl rfl rfl ?_;refine Stp.go ?_))
 constructor
 go_wp2_with (first |(refine wpStF size35 rfl (.tmp 22) (.tmp 21) rfl rfl g 27 (.slice ao n n) hone rfl rfl (unhide HGB) (by rw [unhide HCL];decide) ?_;intro W2 B2 K2;have HB2:=hide B2;have HK2:=hide K2;clear B2 K2;refine Stp.go ?_))
 constructor
 go_wp2_with fail
 go_ret
 have hg:=unhide HG
 have hk2:=unhide HK2
 have hk:=(unhide HK).fresh hk2 (fun i hi hl=>by simp at hi;omega)
 refine⟨g,.slice ao n n,rfl,hg,⟨?_,?_,(unhide H).gd⟩,?_,?_,hk⟩
 · have h9:=unhide HB2
   rw [← unhide HCS] at h9
   exact h9
 · show Rw _ _ _ _ x.q.length (wsC x.q)
   rw [hq,hn]
   exact(capD (unhide HR)).kept hk (fun _ _=>by simp)
 · rw [hln];cases ao <;> rfl
 · cases ao <;> simp [spare]
end Go.Proofs.Ytbigongmlpoahaa.D
namespace Go.Proofs.Ytbigongmlpoahaa.D
set_option maxRecDepth 100000
set_option linter.unusedSimpArgs false
open Go.RowKit Go.Shelf
attribute [local go_sem] Oper.semAt_some
variable {A:Nat} {w W V:World} {b mb c:Nat} {L:List Lk} {v u:Value}
end Go.Proofs.Ytbigongmlpoahaa.D
namespace Go.Proofs.Ytbigongmlpoahaa.D
set_option maxHeartbeats 8000000
set_option maxRecDepth 100000
set_option linter.unusedSimpArgs false
open Go.RowKit Go.Shelf
attribute [local go_sem] Oper.semAt_some
section
variable {o:Oper} {a:Act} {w:World} {K:Act→World→Prop} {Q:Exit→Act→World→Prop}
theorem o_load53 (x:Operand) (ho:o.op= .load 53 x) (p:Addr) (v:Value) (hx:a.eval x= .pointer (some p)) (hc:w.cell? p=some v) (h:K (a.put o.dst v) w):o.wp Try.prog a w K Q:=by
 unfold Oper.wp execOp
 simp only [ho,hx]
 simp [go_sem,hc]
 exact h
end
theorem cg39 (vs:Array Value) (w:World):(callFunc 39 vs).run Try.prog w= .ok (.enter 39 vs) w:=by kernel_rfl
structure Cp (w W:World) (A mb:Nat) (L:List Lk) (k:Nat) (C:List Lk):Prop where
 map:MapAt W mb (C.map Lk.e)
 ks:C.map Lk.k=((rise L).take k).map Lk.k
 lk:∀y∈C,Lc A W y∧w.heap.size≤y.p∧∃x∈L,y.k=x.k∧y.s=x.s∧y.q=x.q∧y.ln.ownBlock=x.ln.ownBlock∧spare y.ln= []
 ap:C.Pairwise fun x y=>x.p≠y.p
variable {w W W' W0:World} {A b mb mc0 z k:Nat} {L C:List Lk} {y:Lk} {Z:List Nat} {M:List En}
theorem Lc.nod (h:Lc A W y) (hk:Kept Z W W') (hz:∀i∈Z,NoD W i):Lc A W' y:=
 h.kept hk (fun e=>(hz _ e).blk h.blk) (fun i hi e=>by obtain⟨cs,hc⟩:=h.row.block i hi;exact(hz _ e).1 _ _ _ hc)
theorem MapAt.nod {M:List En} (h:MapAt W mb M) (hk:Kept Z W W') (hz:∀i∈Z,NoD W i):MapAt W' mb M:=
 h.kept hk (fun e=>by obtain⟨es,c,h1,_⟩:=h;exact(hz _ e).2 _ _ h1)
theorem Cp.nod (h:Cp w W A mb L k C) (hk:Kept Z W W') (hz:∀i∈Z,NoD W i):Cp w W' A mb L k C:=
 ⟨MapAt.nod h.map hk hz,h.ks,fun y hy=>⟨Lc.nod (h.lk y hy).1 hk hz,(h.lk y hy).2⟩,h.ap⟩
@[reducible] def SK (W0:World) (A mb:Nat) (y:Lk) (M:List En) (d:Nat→Bool) (vs:Nat→Value) (W:World):Prop:=
 Kept [mb] W0 W∧(d 4=false→Kept [] W0 W)∧(d 3=true→∃p ln,vs 3=P0 p∧W0.heap.size≤p∧Lc A W (y.cp p ln)∧ln.ownBlock=y.ln.ownBlock∧spare ln= []∧(d 4=true→MapAt W mb (M++ [⟨y.k,p⟩])))
theorem SK.loc:∀d d' vs vs' W,(∀i∈ [3,4],d i=d' i∧vs i=vs' i)→SK W0 A mb y M d vs W→SK W0 A mb y M d' vs' W:=by
 intro d d' vs vs' W H h
 obtain⟨e0,e1⟩:=H 3 (by simp)
 obtain⟨e2,e3⟩:=H 4 (by simp)
 unfold SK at h⊢
 rw [← e0,← e1,← e2]
 exact h
theorem SK.made {d:Nat→Bool} {vs:Nat→Value} {p:Nat} {ln:Value} (h:SK W0 A mb y M d vs W) (h4:d 4=false) (hp:W.heap.size≤p) (hL:Lc A W' (y.cp p ln)) (ho:ln.ownBlock=y.ln.ownBlock) (hs:spare ln= []) (hk:Kept [] W W'):SK W0 A mb y M (fun i=>if i=3 then true else d i) (fun i=>if i=3 then P0 p else vs i) W':=by
 refine⟨h.1.trans (hk.mono (by simp)),fun _=>(h.2.1 h4).trans hk,fun _=>⟨p,ln,by simp,by have:=h.1.size;omega,hL,ho,hs,fun h9=> ?_⟩⟩
 simp [h4] at h9
theorem SK.upd {d:Nat→Bool} {vs:Nat→Value} {p:Nat} {ln u:Value} (h:SK W0 A mb y M d vs W) (hv:vs 3=P0 p) (hp:W0.heap.size≤p) (hL:Lc A W (y.cp p ln)) (ho:ln.ownBlock=y.ln.ownBlock) (hs:spare ln= []) (hM0:MapAt W mb M) (hM:MapAt W' mb (M++ [⟨y.k,p⟩])) (hk:Kept [mb] W W'):SK W0 A mb y M (fun i=>if i=4 then true else d i) (fun i=>if i=4 then u else vs i) W':=by
 refine⟨h.1.trans hk,fun h9=>by simp at h9,fun _=>⟨p,ln,by simpa using hv,hp,?_,ho,hs,fun _=>hM⟩⟩
 refine hL.kept hk (fun e=> ?_) (fun i hi e=> ?_)
 · simp at e
   exact map_not_cells hM0 hL.blk e
 · simp at e
   obtain⟨cs,hc⟩:=hL.row.block i hi
   exact map_not_cells hM0 hc e
theorem zero53 (w:World):(Instr.alloc 53 true (.tuple #[])).run Try.prog w= .ok (P0 w.heap.size) (w.alloc (.cells [Value.map none].toArray 53)):=by kernel_rfl
theorem riseK (p:Nat) (L:List Lk):(∀x∈riseTo p L,0≤x.k∧x.k<p)∧((riseTo p L).map Lk.k).Nodup:=by
 induction p with
 | zero=>exact ⟨(fun x hx=>by cases hx),List.nodup_nil⟩
 | succ p ih=>
   rw [riseTo_succ]
   cases h:lkOf (p:Int) L with
   | none=>simp only [Option.toList_none,List.append_nil];exact⟨fun x hx=>by have:=ih.1 x hx;omega,ih.2⟩
   | some y=>
     have hy:=(lkOf_some h).2
     simp only [Option.toList_some]
     refine⟨fun x hx=> ?_,?_⟩
     · rcases List.mem_append.1 hx with hx | hx
       · have:=ih.1 x hx;omega
       · rw [List.mem_singleton] at hx;subst hx;omega
     · rw [List.map_append,List.nodup_append]
       refine⟨ih.2,by simp,fun a ha b hb e=> ?_⟩
       obtain⟨x,hx,rfl⟩:=List.mem_map.1 ha
       have h1:=ih.1 x hx
       simp at hb
       omega
theorem rise_new {k:Nat} {y:Lk} (h:(rise L)[k]?=some y):y.k∉((rise L).take k).map Lk.k:=by
 have hd:=(riseK 16 L).2
 intro hm
 have h1:(rise L)=(rise L).take k++(rise L).drop k:=(List.take_append_drop _ _).symm
 have h2:y∈(rise L).drop k:=List.mem_of_getElem? (i:=0) (by rw [List.getElem?_drop];simpa using h)
 have h3:((rise L).map Lk.k).Nodup:=hd
 rw [h1,List.map_append,List.nodup_append] at h3
 exact h3.2.2 _ hm _ (List.mem_map_of_mem h2) rfl
theorem Cp.dg {b':Nat} (h:Cp w W A mb L (rise L).length C) (h0:Dg A w b mc0 L) (hB:Blk W b' 55 [.map (some mb)]):Dg A W b' mb C:=by
 have hks:C.map Lk.k=(rise L).map Lk.k:=by rw [h.ks,List.take_length]
 have hnd:(C.map Lk.k).Nodup:=by rw [hks];exact(riseK 16 L).2
 refine⟨hB,h.map,fun y hy=>(h.lk y hy).1,fun y hy=> ?_,hnd,?_⟩
 · obtain⟨_,_,x,hx,e,_⟩:=h.lk y hy
   rw [e]
   exact h0.may x hx
 · have hp:C.Pairwise fun x y=>x.k≠y.k:=by unfold List.Nodup at hnd;rw [List.pairwise_map] at hnd;exact hnd
   refine(h.ap.and hp).imp_of_mem ?_
   rintro y1 y2 m1 m2 ⟨n1,n2⟩
   refine⟨n1,fun i hi=> ?_⟩
   obtain⟨_,_,x1,hx1,e1,_,_,o1,_⟩:=h.lk y1 m1
   obtain⟨_,_,x2,hx2,e2,_,_,o2,_⟩:=h.lk y2 m2
   rw [o2]
   rw [o1] at hi
   exact(h0.apart hx1 hx2 (by rw [← e1,← e2];exact n2)).2 i hi
theorem size53:(Try.prog.info? 53).map (·.size)=some 1:=by kernel_rfl
theorem copy13 (h:Dg A w b mb L):Calls Try.prog 13 #[P0 b] w fun e W=>∃b' mb' C,e= .returned (P0 b')∧Dg A W b' mb' C∧Cp w W A mb' L (rise L).length C∧w.heap.size≤b'∧w.heap.size≤mb'∧Kept [] w W:=by
 have H:=hide h
 have hFw:=wideF
 clear h
 refine(callsIn_wide (n:=3)).1 ?_
 refine callsIn_of_wp_marks Try.func13 rfl trivial ?_ rfl
 refine wpIn_wide.2 ?_
 simp only [Try.ntmps13,List.size_toArray,List.length_cons,List.length_nil,Nat.reduceAdd,Nat.reduceSub,Array.replicate_succ,Array.replicate_zero,List.push_toArray,List.append_toArray,List.nil_append,List.cons_append]
 go_wp2_with (first |(go_at_call 35;refine(none35 (unhide H)).mono ?_;rintro e W9 ⟨rfl,q9⟩;replace q9:=q9.symm;subst q9;refine Stp.go ?_))
 constructor
 go_wp2_with (first |(refine wpMk53 rfl rfl ?_;intro W1 mc e1 M1 K1;have HM:=hide M1;have HK:=hide K1;have HGM:Hid (w.heap.size≤mc):=(by show _≤_;omega);clear e1 M1 K1;refine Stp.go ?_))
 constructor
 go_wp2_with (first |(refine wpAllocW ([Value.map none]) zero53 3 rfl rfl rfl ?_;intro W2 z e1 B1 K1;have HZ:=hide B1;have HGZ:Hid (w.heap.size≤z∧mc<z):=⟨by have h9:=(unhide HK).size;omega,by have h9:=(unhide HM).lt;omega⟩;replace HM:=hide ((unhide HM).kept K1 (by simp));replace HK:=hide ((unhide HK).trans K1);clear e1 B1 K1;refine Stp.go ?_))
 constructor
 go_wp2_with (first |(refine wpStF size53 rfl (.tmp 3) (.tmp 8) rfl rfl z 0 (.map (some mc)) ⟨rfl,rfl⟩ rfl rfl (unhide HZ) (by decide) ?_;intro W5 B5 K5;replace HZ:Hid (Blk W5 z 53 [.map (some mc)]):=hide B5;replace HM:=hide ((unhide HM).kept K5 (by simp;have:=unhide HGZ;omega));replace HK:=hide ((unhide HK).fresh K5 (fun i hi hl=>by simp at hi;have:=unhide HGZ;omega));clear B5 K5;refine Stp.go ?_))
 constructor
 go_wp2_with (first |(go_at_call 38;refine(rising38 (some ⟨b,0,none⟩) _).mono ?_;rintro e W6 ⟨c,rfl,hc,hg,K2⟩;have HC:=hide hc;have HGC:Hid (z<c):=(by have:=(unhide HZ).lt;show _<_;omega);replace HZ:=hide ((unhide HZ).kept K2 (by simp));replace HM:=hide ((unhide HM).kept K2 (by simp));replace HK:=hide ((unhide HK).trans K2);clear hc hg K2;refine Stp.go ?_))
 constructor
 go_wp2_with fail
 refine(wpIn_wide (n:=3)).1 ?_
 have hgz:=unhide HGZ
 have hDL:=(unhide H).lts
 have HDD:=hide ((unhide H).step0 (unhide HK))
 have HLT:=hide hDL
 have HML:Hid (mc<W6.heap.size):=(unhide HM).lt
 have HGW:Hid (w.heap.size≤W6.heap.size):=(unhide HK).size
 refine wp_rangeV 2 73 #[P0 c] (rise L).length 2 (RiE L) (fun k x W h=>h.two) [mc] rfl ent73 rfl (by intro k hk;simp at hk;rw [hk];exact unhide HML) ?it (fun k W=>(∃C,Cp w W A mc L k C)∧Dg A W b mb L∧Blk W z 53 [.map (some mc)]∧Kept [] w W)
   (fun _ _ _=>False) ?i1 (fun _ _ _ _ _ h _ _=>h) ⟨⟨[],⟨unhide HM,rfl,(fun y hy=>by cases hy),List.Pairwise.nil⟩⟩,unhide HDD,unhide HZ,unhide HK⟩ (fun k a' W=>∃y,(rise L)[k]?=some y∧a'= { tmps:=(((#[P0 b,undef,Value.pointer none,P0 z,undef,undef,P0 b,Value.bool false,Value.map (some mc),P0 b,fnV 73 #[P0 c],undef,undef,undef,undef,undef,undef,undef,undef,undef].setIfInBounds 11 (.int .i64 y.k)).setIfInBounds 12 (P0 y.p)).setIfInBounds 4 (.int .i64 y.k)).setIfInBounds 5 (P0 y.p),defers:= [] }) ?f1 ?ag ?bd ?dn (fun _ _ _ _ _ _ h _=>h.elim)
 case it=>
   intro V hk hs
   have hcl:=(unhide HC).lt
   have hgc:=unhide HGC
   have hgw:=unhide HGW
   have hgm:=unhide HGM
   have hlt:=unhide HLT
   refine rising73_in _ _ ((unhide HC).kept hk (by simp)) ((unhide HDD).blk.kept hk (by simp)) ((unhide HDD).map.kept hk (by simp)) ⟨A,(unhide HDD).step0 hk⟩ ?_ ?_ ?_
   · simp;omega
   · simp;omega
   · simp;omega
 case i1=>
   rintro k A1 B1 Z ⟨⟨C,h1⟩,h2,h3,h4⟩ hk hz
   refine⟨⟨C,h1.nod hk (fun i hi=>(hz i hi).2)⟩,?_,h3.kept hk (fun e=>(hz _ e).2.blk h3),h4.fresh hk (fun i hi hl=>by have:=(hz i hi).1;have:=unhide HGW;omega)⟩
   exact h2.fresh (B:=W6.heap.size) ⟨by have:=(unhide HLT).1;have:=unhide HGW;omega,by have:=(unhide HLT).2.1;have:=unhide HGW;omega,fun x hx=>⟨by have:=((unhide HLT).2.2 x hx).1;have:=unhide HGW;omega,fun i hi=>by have:=((unhide HLT).2.2 x hx).2 i hi;have:=unhide HGW;omega⟩⟩ hk (fun i hi=>(hz i hi).1)
 case f1=>exact fun k a' A1 B1 h _=>h
 case ag=>
   rintro l k x W K hkN ⟨y,hy,rfl⟩ hI hsz hK
   simp only [List.zip_toArray,List.zip_cons_cons,List.zip_nil_right,List.foldl_toArray,List.foldl_cons,List.foldl_nil,List.setIfInBounds_toArray,List.set_cons_succ,List.set_cons_zero]
   have HKK:=hide (hK _ W (Kept.refl _ _) ⟨y,hy,rfl⟩)
   clear hK hI hy
   simp only [List.setIfInBounds_toArray,List.set_cons_succ,List.set_cons_zero] at HKK
   gi_wp2
   exact unhide HKK
 case bd=>
   rintro l0 k a' W hkN ⟨⟨C,g1⟩,g2,g3,g4⟩ ⟨y,hy,rfl⟩ hsz
   have hyL:y∈L:=rise_mem (List.mem_of_getElem? hy)
   obtain⟨M,hMM⟩:∃M,C.map Lk.e=M:=⟨_,rfl⟩
   have HY:=hide (g2.lk y hyL)
   have HM:=hide (show MapAt W mc M by rw [← hMM];exact g1.map)
   have HZ:=hide g3
   have HZM:Hid (z≠mc):=by have:=unhide HGZ;show _≠_;omega
   have HN:Hid (placeOf y.k M 0=none):=by
     show _=_
     rw [← hMM]
     refine placeOf_no fun q hq e=> ?_
     obtain⟨x,hx,rfl⟩:=List.mem_map.1 hq
     have h9:x.k∈C.map Lk.k:=List.mem_map_of_mem hx
     rw [g1.ks] at h9
     exact rise_new hy (by rw [show x.k=y.k from e] at h9;exact h9)
   have HG1:=hide g1
   have HG2:=hide g2
   have HG4:=hide g4
   have HYK:=hide hy
   have HYL:=hide hyL
   have HMM:=hide hMM
   simp only [List.setIfInBounds_toArray,List.set_cons_succ,List.set_cons_zero]
   clear g1 g2 g3 g4 hy hyL hsz hMM
   gi_wp2
   refine wpIn_region_any (by kernel_rfl) (anyIn_of_any (by rintro ⟨a,w,h⟩;rcases h with ⟨_,_,⟨h,_⟩ | ⟨h,_⟩⟩ <;> cases h) (noDeferA (by kernel_rfl)) _ _ _ _ (wpAny_gx 5 rfl (by kernel_rfl) [some (.map (some mc)),some (.int .i64 y.k),some (P0 y.p),none,none] rfl (by kernel_rfl) (fun l vs W9=>(SK W A mc y M) (fun i=>l.getD i false) vs W9) ⟨(Kept.refl _ _).drew,fun _=>(Kept.refl _ _).drew,fun h9=>by simp at h9⟩ ?_ ?_))
   · intro ix o' hi ho a' w2 l vs hls hlf hJ hout hin hdep hnot
     match ix,ho with
     | 0,ho=>
       cases ho
       have e0:=ho9 hout 3
       replace e0:a'.eval (.tmp 3)=P0 z:=e0.trans rfl
       exact o_load53 (.tmp 3) rfl _ _ e0 (fits_cell ((unhide HZ).kept hJ.1 (by simp;exact unhide HZM)) 0 _ rfl) ⟨_,rfl,told_of rfl,keepG [3,4] SK.loc (by omega) (by decide) hJ⟩
     | 1,ho=>
       cases ho
       have e0:=ho9 hout 4
       replace e0:a'.eval (.tmp 4)= .int .i64 y.k:=e0.trans rfl
       exact wp_move (.tmp 4) rfl _ e0 ⟨_,rfl,told_of rfl,keepG [3,4] SK.loc (by omega) (by decide) hJ⟩
     | 2,ho=>
       cases ho
       have e0:=ho9 hout 5
       replace e0:a'.eval (.tmp 5)=P0 y.p:=e0.trans rfl
       exact wp_move (.tmp 5) rfl _ e0 ⟨_,rfl,told_of rfl,keepG [3,4] SK.loc (by omega) (by decide) hJ⟩
     | 3,ho=>
       cases ho
       have e0:a'.eval (.tmp 15)=P0 y.p:=hx9 (hi9 hin 2 15) rfl
       have h4:=ho9 hnot 4
       refine wp_callF 39 _ _ rfl #[P0 y.p] (by simp [e0]) (cg39 _ _) ((copy39 ((unhide HY).kept (hJ.2.1 h4) (by simp) (fun _ _=>by simp))).mono ?_)
       rintro e w3 ⟨p,ln,rfl,g1,g2,g3,g4,g5⟩
       exact⟨_,rfl,_,rfl,told_no rfl,nextG (by omega) (SK.made hJ h4 g1 g2 g3 g4 g5)⟩
     | 4,ho=>
       cases ho
       have e0:a'.eval (.tmp 13)= .map (some mc):=hx9 (hi9 hin 0 13) rfl
       have e1:a'.eval (.tmp 14)= .int .i64 y.k:=hx9 (hi9 hin 1 14) rfl
       have e2:a'.eval (.tmp 16)=vs 3:=(hi9 hin 3 16).1
       obtain⟨p,ln,hv,hp,g2,g3,g4,_⟩:=hJ.2.2 (ho9 hdep 3)
       rw [hv] at e2
       have hM0:=(unhide HM).kept (hJ.2.1 hlf) (by simp)
       refine o_upd (.tmp 13) (.tmp 14) (.tmp 16) rfl rfl mc M ⟨y.k,p⟩ e0 e1 e2 hM0 (unhide HN) (fun W5 h1 h2=> ?_)
       exact⟨_,rfl,told_no rfl,nextG (by omega) (SK.upd hJ hv hp g2 g3 g4 hM0 h1 h2)⟩
   intro l_ vs4 V4 hl hJ htold
   obtain⟨p,ln,_,hp,q2,q3,q4,q5⟩:=hJ.2.2 (hl 3 (by decide))
   have q6:=q5 (hl 4 (by decide))
   have hj:=hJ.1
   have g1:=unhide HG1
   have hgm:=unhide HGM
   have hgw:=(unhide HG4).size
   have hlt:=(unhide H).lts
   clear hJ htold hl
   refine⟨hj,⟨C++ [y.cp p ln],⟨?_,?_,fun x hx=> ?_,?_⟩⟩,(unhide HG2).step hj (by simp;omega) (by simp;omega) (fun x hx=>⟨by have:=(hlt.2.2 x hx).1;simp;omega,fun i hi=>by have:=(hlt.2.2 x hx).2 i hi;simp;omega⟩),(unhide HZ).kept hj (by simpa using unhide HZM),(unhide HG4).fresh hj (fun i hi hl=>by simp at hi;omega)⟩
   · rw [List.map_append,unhide HMM];exact q6
   · rw [List.map_append,g1.ks,List.take_add_one,unhide HYK];simp [Lk.cp]
   · rcases List.mem_append.1 hx with hx | hx
     · have h9:=g1.lk x hx
       refine⟨h9.1.kept hj (fun e=> ?_) (fun i hi e=> ?_),h9.2⟩
       · simp at e
         exact map_not_cells g1.map h9.1.blk e
       · simp at e
         obtain⟨cs,hc⟩:=h9.1.row.block i hi
         exact map_not_cells g1.map hc e
     · rw [List.mem_singleton] at hx
       subst hx
       exact⟨q2,by show w.heap.size≤p;omega,y,unhide HYL,rfl,rfl,rfl,q3,q4⟩
   · rw [List.pairwise_append]
     refine⟨g1.ap,List.pairwise_singleton _ _,fun x hx q hq=> ?_⟩
     rw [List.mem_singleton] at hq
     subst hq
     have:=(g1.lk x hx).1.blk.lt
     show x.p≠p
     omega
 case dn=>
   rintro Wd hkd hsz ⟨⟨C,g1⟩,g2,g3,g4⟩ hD
   have HG1:=hide g1
   have HG3:=hide g3
   have HG4:=hide g4
   have HDF:=hide hD
   have kz:=fits_cell g3 0 _ rfl
   clear hkd g1 g2 g3 g4 hD hsz
   go_wp2_with (first |(refine wpBoxV rfl (.tmp 18) rfl [.map (some mc)] rfl ?_;intro W8 b8 e8 B8 K8;have HB8:=hide B8;have HE8:=hide e8;have HK8:=hide K8;have HD2:=hide (K8.heap (unhide HDF) (by simp));clear e8 B8 K8 kz;refine Stp.go ?_))
   constructor
   go_wp2_with fail
   refine⟨by simp,.inl ⟨_,_,rfl,run_takeDeferred (unhide HD2),?_⟩⟩
   refine⟨_,results_tmp rfl _ _ _,?_⟩
   have hnd:=noD_mark (unhide HD2)
   have kp:Kept [W6.heap.size] W8 (W8.putObj W6.heap.size (.deferred none)):=Kept.put1
   have hz:∀i∈ [W6.heap.size],NoD W8 i:=fun i hi=>by simp at hi;subst hi;exact hnd
   have hc:=((unhide HG1).nod (unhide HK8) (by simp)).nod kp hz
   have hgw:=(unhide HG4).size
   have hgw6:=unhide HGW
   have he8:=unhide HE8
   refine⟨b8,mc,C,rfl,hc.dg (unhide H) ((unhide HB8).kept kp (fun e=>(hz _ e).blk (unhide HB8))),hc,by omega,unhide HGM,((unhide HG4).trans (unhide HK8)).fresh kp (fun i hi hl=>by simp at hi;omega)⟩
end Go.Proofs.Ytbigongmlpoahaa.D
namespace Go.Proofs.Ytbigongmlpoahaa.D
set_option maxHeartbeats 2000000
set_option maxRecDepth 100000
set_option linter.unusedSimpArgs false
open Go.RowKit Go.Shelf
attribute [local go_sem] Oper.semAt_some
section
variable {ops:Array Oper} {rest:List Oper} {op:Oper} {a:Act} {w:World} {Q:Exit→Act→World→Prop}
theorem wpBoxF {T:Nat} (hgd:op.guard=none) (x:Operand) (ho:op.op= .box T x) (g:Nat) (cs:Array Value) (hx:a.eval x=fnV g cs)
   (h:∀W b,b=w.heap.size→Blk W b T [fnV g cs]→Kept [] w W→wpList Try.prog ops Q rest (a.put op.dst (P0 b)) W):wpList Try.prog ops Q (op::rest) a w:=
 wpList_plain hgd fun _ hK=>by
   unfold Oper.wp execOp
   simp only [ho,hx]
   exact hK _ _ (h _ _ rfl (Blk.new w T _) ((Kept.refl _ _).alloc _))
end
theorem zero42 (w:World):(Instr.alloc 42 true (.tuple #[])).run Try.prog w= .ok (P0 w.heap.size) (w.alloc (.cells [Value.pointer none].toArray 42)):=by kernel_rfl
theorem size42:(Try.prog.info? 42).map (·.size)=some 1:=by kernel_rfl
structure It (w W:World) (A T g:Nat) (cs:Array Value) (L:List Lk) (c1 c2 b' mb':Nat) (C:List Lk):Prop where
 h1:Blk W c1 42 [P0 b']
 h2:Blk W c2 T [fnV g cs]
 dg:Dg A W b' mb' C
 cp:Cp w W A mb' L (rise L).length C
 ge:w.heap.size≤c1∧w.heap.size≤c2∧w.heap.size≤b'∧w.heap.size≤mb'
 k:Kept [] w W
variable {w W:World} {A b mb g:Nat} {cs:Array Value} {L:List Lk} {v:Value} {m:Int}
theorem asItIs57 (h:Dg A w b mb L):Calls Try.prog 57 #[P0 b,fnV g cs] w fun e W=>∃c1 c2 b' mb' C,e= .returned (fnV 89 #[P0 c1,P0 c2])∧It w W A 103 g cs L c1 c2 b' mb' C:=by
 have H:=hide h
 clear h
 go_enter Try.func57,Try.ntmps57
 go_wp2_with (first |(refine wpBoxF rfl (.tmp 1) rfl g cs rfl ?_;intro W1 c2 e1 B1 K1;have HC2:=hide B1;have HK:=hide K1;have HG2:Hid (w.heap.size≤c2):=(by show _≤_;omega);clear e1 B1 K1;refine Stp.go ?_))
 constructor
 go_wp2_with (first |(go_at_call 13;refine(copy13 ((unhide H).step0 (unhide HK))).mono ?_;rintro e W2 ⟨b2,m2,C,rfl,g1,g2,g3,g4,g5⟩;have HS:=(unhide HK).size;have HD:=hide g1;have HCP:Hid (Cp w W2 A m2 L (rise L).length C):=⟨g2.map,g2.ks,fun y hy=>⟨(g2.lk y hy).1,Nat.le_trans HS (g2.lk y hy).2.1,(g2.lk y hy).2.2⟩,g2.ap⟩;have HG:Hid (w.heap.size≤b2∧w.heap.size≤m2):=⟨Nat.le_trans HS g3,Nat.le_trans HS g4⟩;replace HC2:=hide ((unhide HC2).kept g5 (by simp));replace HK:=hide ((unhide HK).trans g5);clear g1 g2 g3 g4 g5 HS;refine Stp.go ?_))
 constructor
 go_wp2_with (first |(refine wpAllocW ([Value.pointer none]) zero42 5 rfl rfl rfl ?_;intro W3 c1 e1 B1 K1;have HC1:=hide B1;have HG1:Hid (w.heap.size≤c1∧c2<c1):=⟨by have h9:=(unhide HK).size;omega,by have h9:=(unhide HC2).lt;omega⟩;have HD0:=HD;replace HC2:=hide ((unhide HC2).kept K1 (by simp));replace HD:=hide ((unhide HD).step0 K1);replace HCP:=hide ((unhide HCP).nod K1 (by simp));replace HK:=hide ((unhide HK).trans K1);have HLT:Hid (b2≠c1∧m2≠c1∧∀x∈C,x.p≠c1∧∀i,x.ln.ownBlock=some i→i≠c1):=(by have hl:=(unhide HD0).lts;exact⟨by omega,by omega,fun x hx=>⟨by have:=(hl.2.2 x hx).1;omega,fun i hi=>by have:=(hl.2.2 x hx).2 i hi;omega⟩⟩);clear e1 B1 K1;refine Stp.go ?_))
 constructor
 go_wp2_with (
   first
   | (refine wpStF size42 rfl (.tmp 5) (.tmp 7) rfl rfl c1 0 (P0 b2) ⟨rfl,rfl⟩ rfl rfl (unhide HC1) (by decide) ?_
      intro W5 B5 K5
      have hlt:=unhide HLT
      have HR:Hid (It w W5 A 103 g cs L c1 c2 b2 m2 C):=by
        refine⟨B5,(unhide HC2).kept K5 (by simp;have:=(unhide HG1).2;omega),(unhide HD).step K5 (by simp;exact hlt.1) (by simp;exact hlt.2.1) (fun x hx=>⟨by simp;exact(hlt.2.2 x hx).1,fun i hi=>by simp;exact(hlt.2.2 x hx).2 i hi⟩),?_,⟨(unhide HG1).1,unhide HG2,(unhide HG).1,(unhide HG).2⟩,(unhide HK).fresh K5 (fun i hi hl=>by simp at hi;have:=(unhide HG1).1;omega)⟩
        have hc:=unhide HCP
        exact⟨hc.map.kept K5 (by simp;exact hlt.2.1),hc.ks,fun y hy=>⟨(hc.lk y hy).1.kept K5 (by simp;exact(hlt.2.2 y hy).1) (fun i hi=>by simp;exact(hlt.2.2 y hy).2 i hi),(hc.lk y hy).2⟩,hc.ap⟩
      clear B5 K5 hlt
      refine Stp.go ?_))
 constructor
 go_wp2_with fail
 go_ret
 exact⟨c1,c2,b2,m2,C,rfl,unhide HR⟩
theorem held23 (h:Dg A w b mb L) (m:Int):Calls Try.prog 23 #[P0 b,.int .i64 m] w fun e W=>∃cn c1 c2 b' mb' C W1,e= .returned (fnV 89 #[P0 c1,P0 c2])∧w.heap.size≤cn∧Kept [] w W1∧cn<W1.heap.size∧Blk W cn 3 [.int .i64 m]∧It W1 W A 103 58 #[P0 cn] L c1 c2 b' mb' C:=by
 have H:=hide h
 clear h
 go_enter Try.func23,Try.ntmps23
 go_wp2_with (first |(refine wpBox1 rfl (.tmp 1) rfl m rfl ?_;intro W1 cn e1 B1 K1;have HB:=hide B1;have HK:=hide K1;have HG:Hid (w.heap.size≤cn):=(by show _≤_;omega);clear e1 B1 K1;refine Stp.go ?_))
 constructor
 go_wp2_with (first |(go_at_call 57;refine(asItIs57 (g:=58) (cs:= #[P0 cn]) ((unhide H).step0 (unhide HK))).mono ?_;rintro e W2 ⟨c1,c2,b2,m2,C,rfl,g1⟩;have HR:=hide g1;clear g1;refine Stp.go ?_))
 constructor
 go_wp2_with fail
 go_ret
 exact⟨cn,c1,c2,b2,m2,C,W1,rfl,unhide HG,unhide HK,(unhide HB).lt,(unhide HB).kept (unhide HR).k (by simp),unhide HR⟩
end Go.Proofs.Ytbigongmlpoahaa.D
