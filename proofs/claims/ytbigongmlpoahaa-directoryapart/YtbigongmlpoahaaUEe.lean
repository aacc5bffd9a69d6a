import Derived.Test.YtbigongmlpoahaaUE0
namespace Go.Proofs.Ytbigongmlpoahaa.D
set_option maxHeartbeats 8000000
set_option maxRecDepth 100000
set_option linter.unusedSimpArgs false
open Go.RowKit Go.Shelf
section
variable {op:Oper} {ops:Array Oper} {rest:List Oper} {o:Oper} {a:Act} {w:World} {K:Act→World→Prop} {Q:Exit→Act→World→Prop}
theorem wpIdx44G (hw:Region.wanted op (yielded ops a.tmps)=true) (x y:Operand) (ho:op.op= .indexAddr 44 x y) (b i n:Nat) (hn:n<16) (hx:a.eval x= .pointer (some ⟨b,i,none⟩)) (hy:a.eval y= .int .i64 n) (h:wpList Try.prog ops Q rest (a.put op.dst (.pointer (some ⟨b,i+n,none⟩))) w):wpList Try.prog ops Q (op::rest) a w:=
 BigFrame.wpList_want hw fun _ hK=>o_idx44 x y ho b i n hn hx hy (hK _ _ h)
theorem o_st43 (x y:Operand) (ho:o.op= .store 43 x y) (b off:Nat) (v:Value) (h1:One v) (hx:a.eval x= .pointer (some ⟨b,off,none⟩)) (hy:a.eval y=v) {TT:Nat} {us:List Value} (hB:Blk w b TT us) (hl:off<us.length)
   (h:∀W,Blk W b TT (us.set off v)→Kept [b] w W→K (a.put o.dst undef) W):o.wp Try.prog a w K Q:=by
 have hst:=storeVar1 (T:=43) (by kernel_rfl) hB hl v h1.1 h1.2
 unfold Oper.wp execOp
 simp only [ho,hx,hy,Instr.storeAt,Instr.sureAddr,Sem.run_bind,Sem.run_pure,Result.andThen_ok,hst]
 exact h _ (hB.set v) ((Kept.refl _ _).setCell (by simp) v)
end
section
variable {op:Oper} {ops:Array Oper} {rest:List Oper} {a:Act} {w:World} {Q:Exit→Act→World→Prop}
theorem wpIdx22 (hgd:op.guard=none) (x y:Operand) (ho:op.op= .indexAddr 22 x y) (g off n c j:Nat) (hj:j<n) (hx:a.eval x= .slice (some ⟨g,off,none⟩) n c) (hy:a.eval y= .int .i64 j) (h:wpList Try.prog ops Q rest (a.put op.dst (.pointer (some ⟨g,off+j,none⟩))) w):wpList Try.prog ops Q (op::rest) a w:=
 wpList_plain hgd fun _ hK=>o_idx36n x y ho g off n c j hj hx hy (hK _ _ h)
end
theorem build46 (w:World):(Instr.build 46 #[]).run Try.prog w= .ok (aggV (.pointer none::ptrs [])) w:=by kernel_rfl
theorem cg25 (vs:Array Value) (w:World):(callFunc 25 vs).run Try.prog w= .ok (.enter 25 vs) w:=by kernel_rfl
theorem size42p:(Try.prog.info? 42).map (·.size)=some 1:=by kernel_rfl
def rnewP (n:Int) (rp:Nat):Pr:=⟨Lk.new n 0,rp,.slice none 0 0⟩
theorem prOf_app_none {n:Int} {R:List Pr} (h:prOf n R=none) (rp:Nat) (i:Int):prOf i (R++ [rnewP n rp])=if i=n then some (rnewP n rp) else prOf i R:=by
 unfold prOf at h⊢
 rw [List.find?_append]
 by_cases e:i=n
 · subst e
   rw [if_pos rfl,h]
   simp [rnewP,Lk.new]
 · rw [if_neg e]
   have:List.find? (fun y:Pr=>decide (y.x.k=i)) [rnewP n rp]=none:=by simp [rnewP,Lk.new];omega
   rw [this,Option.or_none]
theorem ptrs_add {R:List Pr} {n:Nat} (hn:n<16) (h:prOf (n:Int) R=none) (rp:Nat):ptrs (R++ [rnewP n rp])=(ptrs R).set n (P0 rp):=by
 apply List.ext_getElem?
 intro i
 by_cases hi:i<16
 · rw [ptrs_at _ hi,prOf_app_none h rp i]
   by_cases e:i=n
   · subst e
     rw [if_pos rfl,List.getElem?_set_self (by rw [ptrs_len];exact hi)]
     rfl
   · rw [if_neg (by omega),List.getElem?_set_ne (by omega),ptrs_at _ hi]
 · rw [List.getElem?_eq_none (by rw [ptrs_len];omega),List.getElem?_eq_none (by rw [List.length_set,ptrs_len];omega)]
structure Ds (w W:World) (wb:Nat) (L:List Int) (j:Nat) (R:List Pr):Prop where
 wbk:Blk W wb 46 (.pointer none::ptrs R)
 ks:R.map (fun y=>y.x.k)=L.take j
 may:∀n∈L.take j,isP n=true
 nd:(L.take j).Nodup
 rk:∀y∈R,Blk W y.rp 80 (rk0.C (.slice none 0 0))∧w.heap.size≤y.rp
 ap:R.Pairwise fun y z=>y.rp≠z.rp
 k:Kept [] w W
 wb0:w.heap.size≤wb
variable {w W W' W0 W2:World} {wb j rp:Nat} {L:List Int} {R:List Pr} {n:Int}
theorem Ds.step0 (h:Ds w W wb L j R) (hk:Kept [] W W'):Ds w W' wb L j R:=⟨h.wbk.kept hk (by simp),h.ks,h.may,h.nd,fun y hy=>⟨(h.rk y hy).1.kept hk (by simp),(h.rk y hy).2⟩,h.ap,h.k.trans hk,h.wb0⟩
theorem Ds.add {nn:Nat} (h:Ds w W wb L j R) (hj:L[j]?=some (nn:Int)) (hn:nn<16) (hp:prOf (nn:Int) R=none) (hk:Kept [wb] W W') (hW:Blk W' wb 46 (.pointer none::(ptrs R).set nn (P0 rp))) (hr:Blk W' rp 80 (rk0.C (.slice none 0 0))) (hrp:W.heap.size≤rp):Ds w W' wb L (j+1) (R++ [rnewP nn rp]):=by
 have hnm:(nn:Int)∉L.take j:=by
   intro hm
   rw [← h.ks] at hm
   obtain⟨y,hy,e⟩:=List.mem_map.1 hm
   have:=List.find?_eq_none.1 hp y hy
   simp [e] at this
 have ht:L.take (j+1)=L.take j++ [(nn:Int)]:=by rw [List.take_add_one,hj];rfl
 have hne:∀y∈R,y.rp≠wb:=fun y hy e=>by
   have h1:=(h.rk y hy).1
   have h2:=h.wbk
   rw [e] at h1
   unfold Blk at h1 h2
   rw [h2] at h1
   cases h1
 refine⟨by rw [ptrs_add hn hp];exact hW,?_,?_,?_,fun y hy=> ?_,?_,h.k.fresh hk (fun i hi hl=>by simp at hi;have:=h.wb0;omega),h.wb0⟩
 · rw [List.map_append,h.ks,ht];rfl
 · intro m hm
   rw [ht] at hm
   rcases List.mem_append.1 hm with hm | hm
   · exact h.may m hm
   · rw [List.mem_singleton] at hm;subst hm;simp [isP];omega
 · rw [ht,List.nodup_append]
   refine⟨h.nd,by simp,fun a ha b hb e=> ?_⟩
   rw [List.mem_singleton] at hb
   rw [e,hb] at ha
   exact hnm ha
 · rcases List.mem_append.1 hy with hy | hy
   · exact⟨(h.rk y hy).1.kept hk (by simp;exact hne y hy),(h.rk y hy).2⟩
   · rw [List.mem_singleton] at hy;subst hy
     exact⟨hr,Nat.le_trans h.k.size hrp⟩
 · rw [List.pairwise_append]
   refine⟨h.ap,List.pairwise_singleton _ _,fun y hy z hz=> ?_⟩
   rw [List.mem_singleton] at hz
   subst hz
   have:=(h.rk y hy).1.lt
   show y.rp≠rp
   omega
theorem Ds.good (h:Ds w W wb L L.length R):okP L=true:=by
 have h1:=h.may
 have h2:=h.nd
 rw [List.take_length] at h1 h2
 unfold okP
 rw [List.all_eq_true.2 h1]
 simpa using h2
structure SY (w:World) (wb:Nat) (us:List Value) (nn:Nat) (kc ks:Nat) (d:Nat→Bool) (vs:Nat→Value) (W:World):Prop where
 n1:d kc=false→Kept [] w W
 n2:d kc=true→∃rp,vs kc=P0 rp∧w.heap.size≤rp∧Blk W rp 80 (rk0.C (.slice none 0 0))∧(d ks=false→Kept [] w W)∧(d ks=true→Kept [wb] w W∧Blk W wb 46 (us.set (1+nn) (P0 rp)))
 n3:d ks=true→d kc=true
theorem SY.loc {us:List Value} {nn kc ks:Nat} :∀d d' vs vs' W,(∀i∈ [kc,ks],d i=d' i∧vs i=vs' i)→SY w wb us nn kc ks d vs W→SY w wb us nn kc ks d' vs' W:=by
 intro d d' vs vs' W H h
 obtain⟨a1,c1⟩:=H kc (by simp)
 obtain⟨a2,c2⟩:=H ks (by simp)
 exact⟨by rw [← a1];exact h.n1,by rw [← a1,← c1,← a2];exact h.n2,by rw [← a1,← a2];exact h.n3⟩
theorem SY.made {us:List Value} {nn kc ks:Nat} {d:Nat→Bool} {vs:Nat→Value} (h:SY w wb us nn kc ks d vs W) (hne:ks≠kc) (h1:d kc=false) (h2:d ks=false) (hr:W.heap.size≤rp) (hB:Blk W' rp 80 (rk0.C (.slice none 0 0))) (hk:Kept [] W W'):SY w wb us nn kc ks (fun i=>if i=kc then true else d i) (fun i=>if i=kc then P0 rp else vs i) W':=by
 have h9:=(h.n1 h1)
 refine⟨fun e=>by simp at e,fun _=>⟨rp,by simp,by have:=h9.size;omega,hB,fun _=>h9.trans hk,fun e=> ?_⟩,fun e=>by simp⟩
 simp [hne,h2] at e
theorem SY.put {us:List Value} {nn kc ks:Nat} {d:Nat→Bool} {vs:Nat→Value} {u:Value} (_:SY w wb us nn kc ks d vs W) (hne:kc≠ks) (h1:d kc=true) (hv:vs kc=P0 rp) (hr:w.heap.size≤rp) (hB:Blk W' rp 80 (rk0.C (.slice none 0 0))) (hk:Kept [wb] W W') (hk0:Kept [] w W) (hW:Blk W' wb 46 (us.set (1+nn) (P0 rp))):SY w wb us nn kc ks (fun i=>if i=ks then true else d i) (fun i=>if i=ks then u else vs i) W':=by
 refine⟨fun e=> ?_,fun _=>⟨rp,by simp [hne,hv],hr,hB,fun e=>by simp at e,fun _=>⟨(hk0.mono (by simp)).trans hk,hW⟩⟩,fun _=>by simp [hne,h1]⟩
 simp only [if_neg hne] at e
 rw [h1] at e
 cases e
structure Ow (B:Nat) (wb b mb:Nat) (P:List Pr):Prop where
 wb:B≤wb
 b:B≤b
 mb:B≤mb
 p:∀y∈P,B≤y.x.p∧B≤y.rp∧(∀i,y.x.ln.ownBlock=some i→B≤i)∧∀i,y.rl.ownBlock=some i→B≤i
def StR (w:World) (L:List Int) (e:Ending) (W:World):Prop:=Kept [] w W∧
 ((okP L=true∧∃wb b mb P,e= .returned (.tuple #[P0 wb,.bool true,.bool true])∧Wd 0 W wb b mb P∧P.map (fun y=>y.x.k)=L∧(∀y∈P,y.x.s=lo0∧y.x.q= [])∧Ow w.heap.size wb b mb P)
  ∨(okP L=false∧∃wb,e= .returned (.tuple #[P0 wb,.bool false,.bool true])))
def zipP (X:List Lk) (R:List Pr):List Pr:=List.zipWith (fun x y=>⟨x,y.rp,.slice none 0 0⟩) X R
theorem zip_ptr (i:Int):∀(X:List Lk) (R:List Pr),X.map Lk.k=R.map (fun y=>y.x.k)→ptrV (prOf i (zipP X R))=ptrV (prOf i R)
 | [],[],_=>rfl
 | [],y::R,h=>by cases h
 | x::X,[],h=>by cases h
 | x::X,y::R,h=>by
   simp only [List.map_cons,List.cons.injEq] at h
   have ih:=zip_ptr i X R h.2
   unfold zipP prOf at ih⊢
   simp only [List.zipWith_cons_cons,List.find?_cons]
   rw [h.1]
   cases decide (y.x.k=i) with
   | true=>rfl
   | false=>exact ih
theorem zip_x:∀(X:List Lk) (R:List Pr),X.map Lk.k=R.map (fun y=>y.x.k)→(zipP X R).map Pr.x=X
 | [],[],_=>rfl
 | [],y::R,h=>by cases h
 | x::X,[],h=>by cases h
 | x::X,y::R,h=>by
   simp only [List.map_cons,List.cons.injEq] at h
   have ih:=zip_x X R h.2
   unfold zipP at ih⊢
   simp only [List.zipWith_cons_cons,List.map_cons,ih]
theorem zip_mem:∀(X:List Lk) (R:List Pr) {y:Pr},y∈zipP X R→y.x∈X∧(∃z∈R,y.rp=z.rp)∧y.rl= .slice none 0 0
 | [],_,y,h=>by cases h
 | x::X,[],y,h=>by cases h
 | x::X,z::R,y,h=>by
   unfold zipP at h
   simp only [List.zipWith_cons_cons] at h
   rcases List.mem_cons.1 h with rfl | h
   · exact⟨List.mem_cons_self ..,⟨z,List.mem_cons_self ..,rfl⟩,rfl⟩
   · obtain⟨h1,⟨u,hu,e⟩,h3⟩:=zip_mem X R (y:=y) h
     exact⟨List.mem_cons_of_mem _ h1,⟨u,List.mem_cons_of_mem _ hu,e⟩,h3⟩
theorem zip_ap:∀(X:List Lk) (R:List Pr),(R.Pairwise fun y z=>y.rp≠z.rp)→(zipP X R).Pairwise fun y z=>y.rp≠z.rp∧∀i,y.rl.ownBlock=some i→z.rl.ownBlock≠some i
 | [],_,_=>by unfold zipP;exact List.Pairwise.nil
 | x::X,[],_=>by unfold zipP;exact List.Pairwise.nil
 | x::X,z::R,h=>by
   obtain⟨h1,h2⟩:=List.pairwise_cons.1 h
   unfold zipP
   simp only [List.zipWith_cons_cons]
   refine List.pairwise_cons.2 ⟨fun y hy=> ?_,zip_ap X R h2⟩
   obtain⟨_,⟨u,hu,e⟩,_⟩:=zip_mem X R hy
   exact⟨by show z.rp≠y.rp;rw [e];exact h1 u hu,fun i hi=>by cases hi⟩
theorem Ds.wd {b mb:Nat} {X:List Lk} (h:Ds w W0 wb L j R) (hk9:Kept [wb] W0 W) (hW:Blk W wb 46 (P0 b::ptrs R)) (hD:Dg 0 W b mb X) (hk:X.map Lk.k=L) (hj:j=L.length) (hx:∀x∈X,x=Lk.new x.k x.p∧w.heap.size≤x.p) (hb:w.heap.size≤b) (hm:w.heap.size≤mb):Wd 0 W wb b mb (zipP X R)∧(zipP X R).map (fun y=>y.x.k)=L∧(∀y∈zipP X R,y.x.s=lo0∧y.x.q= [])∧Ow w.heap.size wb b mb (zipP X R):=by
 have hks:X.map Lk.k=R.map (fun y=>y.x.k):=by rw [hk,h.ks,hj,List.take_length]
 have hz:=zip_x X R hks
 have hnew:∀y∈zipP X R,y.x.s=lo0∧y.x.q= []∧y.x.ln= .slice none 0 0:=fun y hy=>by
   have h1:=(hx _ (zip_mem X R hy).1).1
   rw [h1]
   exact⟨rfl,rfl,rfl⟩
 refine⟨⟨?_,by rw [hz];exact hD,fun y hy=> ?_,zip_ap X R h.ap,fun y hy z hz i hi=> ?_⟩,?_,fun y hy=>⟨(hnew y hy).1,(hnew y hy).2.1⟩,⟨h.wb0,hb,hm,fun y hy=> ?_⟩⟩
 · have:ptrs (zipP X R)=ptrs R:=by unfold ptrs;exact List.map_congr_left fun i _=>zip_ptr i X R hks
   rw [this];exact hW
 · obtain⟨h1,⟨u,hu,e⟩,h3⟩:=zip_mem X R hy
   obtain⟨e1,e2,_⟩:=hnew y hy
   rw [e,h3,e1,e2]
   have hne:u.rp≠wb:=fun e9=>by
     have h1:=(h.rk u hu).1
     have h2:=h.wbk
     rw [e9] at h1
     unfold Blk at h1 h2
     rw [h2] at h1
     cases h1
   exact⟨(h.rk u hu).1.kept hk9 (by simp;exact hne),Rw.nil _,lo0_jv⟩
 · rw [(hnew y hy).2.2] at hi
   cases hi
 · have:(zipP X R).map (fun y=>y.x.k)=((zipP X R).map Pr.x).map Lk.k:=by rw [List.map_map];rfl
   rw [this,hz,hk]
 · obtain⟨h1,⟨u,hu,e⟩,h3⟩:=zip_mem X R hy
   refine⟨(hx _ h1).2,by rw [e];exact(h.rk u hu).2,fun i hi=> ?_,fun i hi=> ?_⟩
   · rw [(hnew y hy).2.2] at hi;cases hi
   · rw [h3] at hi;cases hi
def ownL:Option Addr→List Nat
 | none=> []
 | some a=> [a.block]
theorem Ds.far {Z:List Nat} (h:Ds w W wb L j R) (hk:Kept Z W W') (hZ:∀i∈Z,w.heap.size≤i∧∃cs z,W.heap[i]?=some (.cells cs 3 z)):Ds w W' wb L j R:=by
 have off:∀ {k T:Nat} {us:List Value},Blk W k T us→T≠3→k∉Z:=fun {k T us} hB hT hm=>by
   obtain⟨_,cs,z,hc⟩:=hZ k hm
   unfold Blk at hB
   rw [hB] at hc
   cases hc
   exact hT rfl
 exact⟨h.wbk.kept hk (off h.wbk (by decide)),h.ks,h.may,h.nd,fun y hy=>⟨(h.rk y hy).1.kept hk (off (h.rk y hy).1 (by decide)),(h.rk y hy).2⟩,h.ap,h.k.fresh hk (fun i hi hl=>by have:=(hZ i hi).1;omega),h.wb0⟩
theorem Dg.far3 {A b mb:Nat} {X:List Lk} {Z:List Nat} (h:Dg A W b mb X) (hk:Kept Z W W') (hx:∀x∈X,x.ln.ownBlock=none) (hZ:∀i∈Z,∃cs z,W.heap[i]?=some (.cells cs 3 z)):Dg A W' b mb X:=by
 have off:∀ {k T:Nat} {us:List Value},Blk W k T us→T≠3→k∉Z:=fun {k T us} hB hT hm=>by
   obtain⟨cs,z,hc⟩:=hZ k hm
   unfold Blk at hB
   rw [hB] at hc
   cases hc
   exact hT rfl
 refine h.step hk (off h.blk (by decide)) (fun hm=> ?_) (fun x hX=>⟨off (h.lk x hX).blk (by decide),fun i hi=>by rw [hx x hX] at hi;cases hi⟩)
 obtain⟨cs,z,hc⟩:=hZ mb hm
 exact map_not_cells h.map hc rfl
theorem start8 (ao:Option Addr) (cp:Nat) (h:RowS intC 1 w ao L) (hno:ao=none→L= []∧cp=0) (hl:L.length≤40):Calls Try.prog 8 #[.slice ao L.length cp] w (StR w L):=by
 have HI:=hide h
 have HNN:=hide hno
 have hl2:(L.length:Int)≤40:=by omega
 clear h hno
 go_enter Try.func8,Try.ntmps8
 go_wp2_with (first |(refine wpBuildG #[] rfl (by rfl) #[] (by simp) _ (build46 _) ?_;refine Stp.go ?_))
 constructor
 go_wp2_with (first |(refine wpBoxV rfl (.tmp 13) rfl (.pointer none::ptrs []) rfl ?_;intro W1 wb e1 B1 K1;have HDS:Hid (Ds w W1 wb L 0 []):=⟨B1,rfl,(fun n hn=>by cases hn),List.nodup_nil,(fun y hy=>by cases hy),List.Pairwise.nil,K1,by omega⟩;clear e1 B1 K1;refine Stp.go ?_))
 constructor
 go_upto_block 0 with fail
 go_cut [6,7,8] from 15 to 45 (fun x6 x7 x8 wc=>∃j R,x6= .bool (okP L)∧Hid (Ds w wc wb L j R)∧(okP L=true→j=L.length))
 case first=>
   go_wp2_with fail
   go_loopw [6,7] (fun x6 i wr=>∃(j:Nat) (R:List Pr),j≤L.length∧x6= .bool true∧i= .int .i64 j∧Hid (Ds w wr wb L j R)) (fun _ i _=>L.length-(intOf i).toNat)
   case atStart=>exact ⟨0,[],by omega,rfl,rfl,HDS⟩
   case round=>
     clear HDS
     obtain⟨j,R,hj,rfl,rfl,HDS⟩:=hrel
     by_cases hk:j<L.length
     · have hd:decide ((j:Int)<(L.length:Int))=true:=by simp;omega
       obtain⟨n,hn⟩:∃n,L[j]?=some n:=⟨_,List.getElem?_eq_getElem hk⟩
       have HJ:=hide hn
       clear hn
       cases hp:isP n with
       | false=>
         have HBAD:Hid (okP L=false):=okP_bad (unhide HJ) hp
         by_cases hn0:n<0
         · have d1:decide (n<0)=true:=by simpa using hn0
           have HP:=hide hp
           clear hp hn0
           go_wp2_with (first |(refine wpIdxA rfl (.tmp 21) (.tmp 22) rfl ao cp L j _ rfl rfl ((unhide HI).kept (unhide HDS).k) (unhide HJ) ?_;intro ad hc;refine Stp.go ?_))
           constructor
           go_wp2_with fail
           go_meet
           case rel=>exact ⟨j,R,by rw [show okP L=false from unhide HBAD],HDS,fun e=>by rw [show okP L=false from unhide HBAD] at e;cases e⟩
         · have d1:decide (n<0)=false:=by simpa using hn0
           have d2:decide (n≥16)=true:=by simp [isP] at hp;simp;omega
           have HP:=hide hp
           clear hp hn0
           go_wp2_with (first |(refine wpIdxA rfl (.tmp 21) (.tmp 22) rfl ao cp L j _ rfl rfl ((unhide HI).kept (unhide HDS).k) (unhide HJ) ?_;intro ad hc;refine Stp.go ?_))
           constructor
           go_wp2_with fail
           go_meet
           case rel=>exact ⟨j,R,by rw [show okP L=false from unhide HBAD],HDS,fun e=>by rw [show okP L=false from unhide HBAD] at e;cases e⟩
       | true=>
         obtain⟨nn,rfl⟩:∃q:Nat,n=(q:Int):=⟨n.toNat,by simp [isP] at hp;omega⟩
         have HGN:Hid (nn<16):=by simp [isP] at hp;show _<_;omega
         have hgI:(nn:Int)<16:=by have:=unhide HGN;omega
         have d1:decide ((nn:Int)<0)=false:=by simp
         have d2:decide ((nn:Int)≥16)=false:=by simp;omega
         clear hp
         cases hq:prOf (nn:Int) R with
         | some y=>
           have HPC:Hid (wr.cell? ⟨wb,1+nn,none⟩=some (P0 y.rp)):=fits_cell (unhide HDS).wbk (1+nn) _ (by rw [Nat.add_comm,List.getElem?_cons_succ,ptrs_at R (unhide HGN),hq];rfl)
           have HBAD:Hid (okP L=false):=okP_twice (unhide HJ) (by rw [← (unhide HDS).ks];have h9:=prOf_some hq;exact List.mem_map.2 ⟨y,h9.1,h9.2⟩)
           clear hq
           go_wp2_with (first |(refine wpIdxA rfl (.tmp 21) (.tmp 22) rfl ao cp L j _ rfl rfl ((unhide HI).kept (unhide HDS).k) (unhide HJ) ?_;intro ad hc;refine Stp.go ?_))
           constructor
           go_wp2_with (first |(refine wpIdx44G (by rfl) (.tmp 35) (.tmp 33) rfl wb 1 nn (unhide HGN) rfl rfl ?_;refine Stp.go ?_))
           constructor
           have c44:wr.cell? ⟨wb,1+nn,none⟩=some (P0 y.rp):=unhide HPC
           go_wp2_with fail
           go_meet
           case rel=>exact ⟨j,R,by rw [show okP L=false from unhide HBAD],HDS,fun e=>by rw [show okP L=false from unhide HBAD] at e;cases e⟩
         | none=>
           have HPC:Hid (wr.cell? ⟨wb,1+nn,none⟩=some (.pointer none)):=fits_cell (unhide HDS).wbk (1+nn) _ (by rw [Nat.add_comm,List.getElem?_cons_succ,ptrs_at R (unhide HGN),hq];rfl)
           have HNO:=hide hq
           clear hq
           go_wp2_with (first |(refine wpIdxA rfl (.tmp 21) (.tmp 22) rfl ao cp L j _ rfl rfl ((unhide HI).kept (unhide HDS).k) (unhide HJ) ?_;intro ad hc;refine Stp.go ?_))
           constructor
           go_wp2_with (first |(refine wpIdx44G (by rfl) (.tmp 35) (.tmp 33) rfl wb 1 nn (unhide HGN) rfl rfl ?_;refine Stp.go ?_))
           constructor
           have c44:wr.cell? ⟨wb,1+nn,none⟩=some (.pointer none):=unhide HPC
           go_upto_region 9 with fail
           clear c44
           refine wp_region_any mixed (wpAny_gx 7 rfl (by kernel_rfl) [some (P0 wb),some (.int .i64 (nn:Int)),none,some (P0 wb),some (.pointer (some ⟨wb,1,none⟩)),some (.pointer (some ⟨wb,1+nn,none⟩)),none] rfl (by kernel_rfl) (fun l vs W9=>(SY wr wb (.pointer none::ptrs R) nn 2 6) (fun i=>l.getD i false) vs W9) ⟨fun _=>(Kept.refl _ _).drew,fun h9=>by simp at h9,fun h9=>by simp at h9⟩ ?_ ?_)
           · intro ix o' hi ho a' w2 l vs hls hlf hJ hout hin hdep hnot
             match ix,ho with
             | 0,ho=>
               cases ho
               have e0:=ho9 hout 5
               replace e0:a'.eval (.tmp 5)=P0 wb:=e0.trans rfl
               exact wp_move (.tmp 5) rfl _ e0 ⟨_,rfl,told_of rfl,keepG [2,6] SY.loc (by omega) (by decide) hJ⟩
             | 1,ho=>
               cases ho
               have e0:=ho9 hout 8
               replace e0:a'.eval (.tmp 8)= .int .i64 (nn:Int):=e0.trans rfl
               exact wp_move (.tmp 8) rfl _ e0 ⟨_,rfl,told_of rfl,keepG [2,6] SY.loc (by omega) (by decide) hJ⟩
             | 2,ho=>
               cases ho
               refine wp_callF 25 _ _ rfl #[] (by simp) (cg25 _ _) ((rnew11 _).mono ?_)
               rintro e w3 ⟨rp,rfl,g1,g2,g3⟩
               exact⟨_,rfl,_,rfl,told_no rfl,nextG (by omega) (SY.made hJ (by decide) hlf (ho9 hnot 6) (by omega) g2 g3)⟩
             | 3,ho=>
               cases ho
               exact o_nil (.tmp 40) rfl _ (hx9 (hi9 hin 0 40) rfl) ⟨_,rfl,told_of rfl,keepG [2,6] SY.loc (by omega) (by decide) hJ⟩
             | 4,ho=>
               cases ho
               exact o_fld46_1 (.tmp 43) rfl wb 0 (hx9 (hi9 hin 3 43) rfl) ⟨_,rfl,told_of rfl,keepG [2,6] SY.loc (by omega) (by decide) hJ⟩
             | 5,ho=>
               cases ho
               exact o_idx44 (.tmp 44) (.tmp 41) rfl wb 1 nn (unhide HGN) (hx9 (hi9 hin 4 44) rfl) (hx9 (hi9 hin 1 41) rfl) ⟨_,rfl,told_of rfl,keepG [2,6] SY.loc (by omega) (by decide) hJ⟩
             | 6,ho=>
               cases ho
               have e0:a'.eval (.tmp 45)= .pointer (some ⟨wb,1+nn,none⟩):=hx9 (hi9 hin 5 45) rfl
               have e1:a'.eval (.tmp 42)=vs 2:=(hi9 hin 2 42).1
               have h2:=ho9 hdep 2
               obtain⟨rp,hv,hr,hB,hk0,_⟩:=hJ.n2 h2
               rw [hv] at e1
               have hk1:=hk0 hlf
               have hWB:Blk w2 wb 46 (.pointer none::ptrs R):=(unhide HDS).wbk.kept hk1 (by simp)
               have hrw:rp≠wb:=by have:=(unhide HDS).wbk.lt;omega
               refine o_st43 (.tmp 45) (.tmp 42) rfl wb (1+nn) (P0 rp) ⟨rfl,rfl⟩ e0 e1 hWB (by simp [ptrs_len];have:=unhide HGN;omega) (fun W5 h5 h6=> ?_)
               exact⟨_,rfl,told_no rfl,nextG (by omega) (SY.put hJ (by decide) h2 hv hr (hB.kept h6 (by simp;exact hrw)) h6 hk1 h5)⟩
           intro l_ vs4 V4 hl hJ htold
           have t0:vs4 0=P0 wb:=told_is _ (htold 0 (by decide)) rfl
           have t1:vs4 1= .int .i64 (nn:Int):=told_is _ (htold 1 (by decide)) rfl
           have t3:vs4 3=P0 wb:=told_is _ (htold 3 (by decide)) rfl
           have t4:vs4 4= .pointer (some ⟨wb,1,none⟩):=told_is _ (htold 4 (by decide)) rfl
           have t5:vs4 5= .pointer (some ⟨wb,1+nn,none⟩):=told_is _ (htold 5 (by decide)) rfl
           obtain⟨rp,hv2,hr2,hB2,_,hk2⟩:=hJ.n2 (hl 2 (by decide))
           obtain⟨hk3,hW3⟩:=hk2 (hl 6 (by decide))
           rw [show (List.range 7).map vs4= [vs4 0,vs4 1,vs4 2,vs4 3,vs4 4,vs4 5,vs4 6] from rfl]
           simp only [hv2,t0,t1,t3,t4,t5,putAll,Act.put,List.setIfInBounds_toArray,List.set_cons_succ,List.set_cons_zero]
           clear t0 t1 t3 t4 t5 htold hJ hl hv2 hk2
           have HD2:Hid (Ds w V4 wb L (j+1) (R++ [rnewP nn rp])):=(unhide HDS).add (unhide HJ) (unhide HGN) (unhide HNO) hk3 (by rw [Nat.add_comm,List.set_cons_succ] at hW3;exact hW3) hB2 hr2
           clear hk3 hW3 hB2 hr2
           go_wp2_with fail
           go_roundw
           case rel=>exact ⟨j+1,R++ [rnewP nn rp],by omega,rfl,by go_num,HD2⟩
           case measure=>simp [intOf];omega
     · obtain rfl:j=L.length:=by omega
       have hd:decide ((L.length:Int)<(L.length:Int))=false:=by simp
       go_wp2_with fail
       go_meet
       case rel=>exact ⟨L.length,R,by rw [(unhide HDS).good],HDS,fun _=>rfl⟩
 case rest=>
   clear HDS
   obtain⟨j,R,rfl,HDS,hjl⟩:=hcut
   have HJL:=hide hjl
   clear hjl
   have HDS0:=HDS
   go_wp2_with (first |(refine wpAppA rfl (.tmp 46) rfl ao cp L rfl ((unhide HI).kept (unhide HDS).k) (unhide HNN) (by omega) ?_;intro v2 W2 hN2 hk2 hw2 _;have HO:=hide hN2;have HOW:=hide hw2;replace HDS:=hide ((unhide HDS).step0 hk2);have HKA:=hide hk2;clear hN2 hk2 hw2;refine Stp.go ?_))
   constructor
   obtain⟨bo,cq,rfl,hcq,_⟩:=(unhide HO).sl
   have HOI:Hid (Is W2 (.slice bo L.length cq) L):=HO
   have HOB:Hid (∀g off,bo=some ⟨g,off,none⟩→w.heap.size≤g):=fun g off e=>by
     subst e
     have h9:=(unhide HOW) g rfl
     exact Nat.le_trans (unhide HDS0).k.size h9
   go_wp2_with (first |(go_at_call 24;refine Stp.go ?_))
   constructor
   refine(new24 _ L _ (unhide HOI) (by omega)).mono ?_
   rintro e W5 ⟨hk5,hres⟩
   have HRES:=hide hres
   have HK5:=hide hk5
   replace HDS:=hide ((unhide HDS).step0 hk5)
   have HOI5:=hide ((unhide HOI).kept hk5 (fun _ _=>by simp))
   clear hk5 hres
   rcases unhide HRES with ⟨hok,b,mb,X,rfl,hD,hXk,hXn,hb0,hm0⟩ | ⟨hok,rfl⟩
   · have HOK:=hide hok
     have HD:=hide hD
     have HXK:=hide hXk
     have HXN:=hide hXn
     have HB0:Hid (w.heap.size≤b∧w.heap.size≤mb):=by have h9:=(unhide HDS0).k.size;have h8:=(unhide HKA).size;exact⟨by omega,by omega⟩
     rw [hok]
     clear hok hD hXk hXn hb0 hm0 HRES
     go_wp2_with fail
     go_loopw [12] (fun i wr=>∃j2:Nat,j2≤L.length∧i= .int .i64 j2∧Hid (Kept (ownL bo) W5 wr)∧Hid (∀g off,bo=some ⟨g,off,none⟩→∃cur:List Value,Blk wr g 3 cur∧off+L.length≤cur.length)) (fun i _=>L.length-(intOf i).toNat)
     case atStart=>
       refine⟨0,by omega,rfl,Kept.refl _ _,fun g off e=> ?_⟩
       subst e
       rcases (unhide HOI5).lie with ⟨h1,_⟩ | ⟨g',off',cap,cur,h1,h2,h3,_,h5,_⟩
       · cases h1
       · cases h1
         exact⟨cur.toList,h2,by simp;omega⟩
     case round=>
       obtain⟨j2,hj2,rfl,HK6,HC6⟩:=hrel
       by_cases hlt:j2<L.length
       · have hd:decide ((j2:Int)<(L.length:Int))=true:=by simp;omega
         obtain⟨m,hm⟩:∃m,L[j2]?=some m:=⟨_,List.getElem?_eq_getElem hlt⟩
         obtain⟨g,off,c',e,_⟩:=Is.get (unhide HOI5) hm
         cases e
         obtain⟨cur,hB,hcl⟩:=(unhide HC6) g off rfl
         have HBC:=hide hB
         have HCL:=hide hcl
         have HLT:=hide hlt
         clear hB hcl hm hlt
         go_wp2_with (first |(refine wpIdx22 rfl (.tmp 59) (.tmp 60) rfl g off L.length cq j2 (unhide HLT) rfl rfl ?_;refine Stp.go ?_))
         constructor
         go_wp2_with (first |(refine wpStF size3 rfl (.tmp 61) (.const (.int .i64 99)) rfl rfl g (off+j2) (.int .i64 99) ⟨rfl,rfl⟩ rfl rfl (unhide HBC) (by have:=unhide HCL;have:=unhide HLT;omega) ?_;intro W6 B6 K6;have HK8:=hide ((unhide HK6).trans K6);have HB8:=hide B6;clear B6 K6;refine Stp.go ?_))
         constructor
         go_wp2_with fail
         go_roundw
         case rel=>exact ⟨j2+1,by have:=unhide HLT;omega,by go_num,HK8,fun g' off' e=>by cases e;exact⟨_,unhide HB8,by rw [List.length_set];exact unhide HCL⟩⟩
         case measure=>have:=unhide HLT;simp [intOf];omega
       · have hd:decide ((j2:Int)<(L.length:Int))=false:=by simp;omega
         have hZ:∀i∈ownL bo,w.heap.size≤i∧∃cs z,W5.heap[i]?=some (.cells cs 3 z):=by
           intro i hi
           cases bo with
           | none=>cases hi
           | some ad=>
             obtain⟨g,off,sp⟩:=ad
             simp [ownL] at hi
             subst hi
             rcases (unhide HOI5).lie with ⟨h1,_⟩ | ⟨g',off',cap,cur,h1,h2,_⟩
             · cases h1
             · cases h1
               exact⟨(unhide HOB) _ _ rfl,_,_,h2⟩
         have HDS9:=hide ((unhide HDS).far (unhide HK6) hZ)
         have HD9:=hide ((unhide HD).far3 (unhide HK6) (fun x hx=>by rw [((unhide HXN) x hx).1];rfl) (fun i hi=>(hZ i hi).2))
         clear hZ HC6
         replace HDS:=HDS9
         clear HDS9
         go_wp2_with (first |(refine wpStF size42p rfl (.tmp 65) (.tmp 63) rfl rfl wb 0 (P0 b) ⟨rfl,rfl⟩ rfl rfl (unhide HDS).wbk (by simp) ?_;intro W7 B7 K7;have HK7:=hide K7;have HW7:Hid (Blk W7 wb 46 (P0 b::ptrs R)):=B7;have HKE:=hide ((unhide HDS).k.fresh K7 (fun i hi hl=>by simp at hi;have:=(unhide HDS).wb0;omega));clear B7;have HKK:=hide K7;clear K7;refine Stp.go ?_))
         constructor
         have hDB:=(unhide HD9).blk
         have hWB:=(unhide HDS).wbk
         have offW:∀ {k T:Nat} {us:List Value},Blk _ k T us→T≠46→k∉ [wb]:=fun {k T us} hB hT hm=>by
           simp at hm
           subst hm
           unfold Blk at hB hWB
           rw [hWB] at hB
           cases hB
           exact hT rfl
         have HD2:=hide ((unhide HD9).step (unhide HKK) (offW hDB (by decide)) (by simp;intro e;exact map_not_cells (unhide HD9).map (unhide HDS).wbk e.symm) (fun x hx=>⟨offW ((unhide HD9).lk x hx).blk (by decide),fun i hi=>by rw [((unhide HXN) x hx).1] at hi;cases hi⟩))
         clear hDB hWB offW
         go_wp2_with fail
         go_ret3
         have hp:=(unhide HDS).wd (unhide HK7) (unhide HW7) (unhide HD2) (unhide HXK) ((unhide HJL) (unhide HOK)) (fun x hx=>⟨((unhide HXN) x hx).1,by have h9:=((unhide HXN) x hx).2;have h7:=(unhide HDS0).k.size;have h8:=(unhide HKA).size;omega⟩) (unhide HB0).1 (unhide HB0).2
         exact⟨unhide HKE,.inl ⟨unhide HOK,wb,b,mb,_,rfl,hp⟩⟩
   · have HOK:=hide hok
     rw [hok]
     clear hok HRES
     go_wp2_with fail
     go_loopw [12] (fun i wr=>∃j2:Nat,j2≤L.length∧i= .int .i64 j2∧Hid (Kept (ownL bo) W5 wr)∧Hid (∀g off,bo=some ⟨g,off,none⟩→∃cur:List Value,Blk wr g 3 cur∧off+L.length≤cur.length)) (fun i _=>L.length-(intOf i).toNat)
     case atStart=>
       refine⟨0,by omega,rfl,Kept.refl _ _,fun g off e=> ?_⟩
       subst e
       rcases (unhide HOI5).lie with ⟨h1,_⟩ | ⟨g',off',cap,cur,h1,h2,h3,_,h5,_⟩
       · cases h1
       · cases h1
         exact⟨cur.toList,h2,by simp;omega⟩
     case round=>
       obtain⟨j2,hj2,rfl,HK6,HC6⟩:=hrel
       by_cases hlt:j2<L.length
       · have hd:decide ((j2:Int)<(L.length:Int))=true:=by simp;omega
         obtain⟨m,hm⟩:∃m,L[j2]?=some m:=⟨_,List.getElem?_eq_getElem hlt⟩
         obtain⟨g,off,c',e,_⟩:=Is.get (unhide HOI5) hm
         cases e
         obtain⟨cur,hB,hcl⟩:=(unhide HC6) g off rfl
         have HBC:=hide hB
         have HCL:=hide hcl
         have HLT:=hide hlt
         clear hB hcl hm hlt
         go_wp2_with (first |(refine wpIdx22 rfl (.tmp 59) (.tmp 60) rfl g off L.length cq j2 (unhide HLT) rfl rfl ?_;refine Stp.go ?_))
         constructor
         go_wp2_with (first |(refine wpStF size3 rfl (.tmp 61) (.const (.int .i64 99)) rfl rfl g (off+j2) (.int .i64 99) ⟨rfl,rfl⟩ rfl rfl (unhide HBC) (by have:=unhide HCL;have:=unhide HLT;omega) ?_;intro W6 B6 K6;have HK8:=hide ((unhide HK6).trans K6);have HB8:=hide B6;clear B6 K6;refine Stp.go ?_))
         constructor
         go_wp2_with fail
         go_roundw
         case rel=>exact ⟨j2+1,by have:=unhide HLT;omega,by go_num,HK8,fun g' off' e=>by cases e;exact⟨_,unhide HB8,by rw [List.length_set];exact unhide HCL⟩⟩
         case measure=>have:=unhide HLT;simp [intOf];omega
       · have hd:decide ((j2:Int)<(L.length:Int))=false:=by simp;omega
         have hZ:∀i∈ownL bo,w.heap.size≤i∧∃cs z,W5.heap[i]?=some (.cells cs 3 z):=by
           intro i hi
           cases bo with
           | none=>cases hi
           | some ad=>
             obtain⟨g,off,sp⟩:=ad
             simp [ownL] at hi
             subst hi
             rcases (unhide HOI5).lie with ⟨h1,_⟩ | ⟨g',off',cap,cur,h1,h2,_⟩
             · cases h1
             · cases h1
               exact⟨(unhide HOB) _ _ rfl,_,_,h2⟩
         have HDS9:=hide ((unhide HDS).far (unhide HK6) hZ)
         clear hZ HC6
         replace HDS:=HDS9
         clear HDS9
         go_wp2_with (first |(refine wpStF size42p rfl (.tmp 65) (.tmp 63) rfl rfl wb 0 (.pointer none) ⟨rfl,rfl⟩ rfl rfl (unhide HDS).wbk (by simp) ?_;intro W7 B7 K7;have HK7:=hide K7;have HW7:Hid (Blk W7 wb 46 (.pointer none::ptrs R)):=B7;have HKE:=hide ((unhide HDS).k.fresh K7 (fun i hi hl=>by simp at hi;have:=(unhide HDS).wb0;omega));clear B7 K7;refine Stp.go ?_))
         constructor
         go_wp2_with fail
         go_ret3
         exact⟨unhide HKE,.inr ⟨unhide HOK,wb,rfl⟩⟩
end Go.Proofs.Ytbigongmlpoahaa.D
