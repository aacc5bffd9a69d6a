import Derived.Test.YtbigongmlpoahaaUDf
import Derived.RangeFuncNested
import Derived.RangeFuncBound
import Derived.RangeFuncCalls
import Derived.RangeFuncLeaves
import Derived.Shelf.Abstract
import Derived.Shelf.RegionOpen
import Derived.OwnWalkIn
import Derived.TacticsInMore
import Derived.RangeFuncWrites
import Derived.LoopNIn
import Derived.LoopIn
import Derived.Deep.CutBlock
namespace Go.Proofs.Ytbigongmlpoahaa
set_option maxRecDepth 100000
set_option linter.unusedSimpArgs false
open Go.RowKit Go.Shelf
attribute [local go_sem] Oper.semAt_some
theorem wideF (f:FuncId):Fence.wide.fn f:=trivial
theorem wpIn_value {F:Fence} {n:Nat} {o:Oper} {a:Act} {w w':World} {v:Value} {K:Act→World→Prop} {Q:Exit→Act→World→Prop} (hF:∀f,F.fn f) (hsem:o.semAt F.round a.eval=execOp a.eval o) (h:(execOp a.eval o).run Try.prog w= .ok (.value v) w') (hk:K (a.put o.dst v) w'):o.wpIn F n Try.prog a w K Q:=by
 refine⟨fun f _=>hF f,?_⟩
 rw [hsem,h]
 exact hk
theorem wpIn_skip {F:Fence} {n:Nat} {o:Oper} {a:Act} {w w':World} {K:Act→World→Prop} {Q:Exit→Act→World→Prop} (hF:∀f,F.fn f) (hsem:o.semAt F.round a.eval=execOp a.eval o) (h:(execOp a.eval o).run Try.prog w= .ok .skip w') (hk:K (a.put o.dst undef) w'):o.wpIn F n Try.prog a w K Q:=by
 refine⟨fun f _=>hF f,?_⟩
 rw [hsem,h]
 exact hk
theorem wpListIn_want {F:Fence} {n:Nat} {ops:Array Oper} {Q:Exit→Act→World→Prop} {a:Act} {w:World} {rest:List Oper} {o:Oper} (hw:Region.wanted o (yielded ops a.tmps)=true)
   (h:o.wpIn F n Try.prog a w (wpListIn F n Try.prog ops Q rest) Q):wpListIn F n Try.prog ops Q (o::rest) a w:=by
 simp only [wpListIn,hw,if_true];exact h
theorem Blk.one {w:World} {b T:Nat} {u:Value} (h:Blk w b T [u]) (v:Value):Blk (w.setCell ⟨b,0,none⟩ v) b T [v]:=h.set v
section
variable {F:Fence} {n:Nat} {ops:Array Oper} {rest:List Oper} {o o1 o2:Oper} {a:Act} {w:World} {Q:Exit→Act→World→Prop}
theorem inStore1 {T:Nat} (u v:Value) (hst:∀(w:World) (b:Nat) (u:Value),Blk w b T [u]→(storeVar T ⟨b,0,none⟩ v).run Try.prog w= .ok () (w.setCell ⟨b,0,none⟩ v)) (hF:∀f,F.fn f) (hg:o.guard=none) (x y:Operand) (ho:o.op= .store T x y) (hsem:o.semAt F.round a.eval=execOp a.eval o) (hd:o.dst=none)
   (b:Nat) (hx:a.eval x=P0 b) (hy:a.eval y=v) (hb:Blk w b T [u]) (h:∀W,Blk W b T [v]→W=w.setCell ⟨b,0,none⟩ v→wpListIn F n Try.prog ops Q rest a W):wpListIn F n Try.prog ops Q (o::rest) a w:=by
 refine wpListIn_want (by simp [Region.wanted,hg]) (wpIn_skip (w':=w.setCell ⟨b,0,none⟩ v) hF hsem ?_ ?_)
 · unfold execOp
   simp only [ho,hx,hy,Instr.storeAt,Instr.sureAddr,Sem.run_bind,Sem.run_pure,Result.andThen_ok,hst _ _ _ hb]
 · rw [hd]
   exact h _ (hb.one v) rfl
end
section
variable {l n:Nat} {P:Program} {ops:Array Oper} {Q:Exit→Act→World→Prop}
theorem rowsIn_of_rows {row:String} {args:Array Value} {w:World} {R:Value→World→Prop} (h:Rows P row args w R):RowsIn (Fence.wide.inRound l) n P row args w R:=by
 intro c cs _
 obtain⟨v,w',hr,hs⟩:=h c cs
 exact⟨v,w',hr,stepsIn_wide.2 hs⟩
theorem uponIn_of_upon {o:Oper} {a:Act} {K:Act→World→Prop} {r:Result Next} (h:o.upon P a K Q r):o.uponIn (Fence.wide.inRound l) n P a K Q r:=by
 cases r with
 | ok nx w=>
   cases nx <;> first
     | exact h
     | exact⟨fun h=>by simp [Fence.wide] at h,CallsIn.inRound l (callsIn_wide.2 h)⟩
     | exact⟨fun h=>by simp [Fence.wide] at h,rowsIn_of_rows h⟩
     | exact h.elim
 | halt x w=>cases x <;> first | exact h | exact h.elim
theorem opIn_of_op {o:Oper} {a:Act} {w:World} {K:Act→World→Prop} (hd:∀c,o.op≠ .defer c) (h:o.wp P a w K Q):o.wpIn (Fence.wide.inRound l) n P a w K Q:=by
 refine⟨fun f _=>trivial,?_⟩
 rw [Fence.inRound_round,Oper.semAt_some l _ o hd]
 exact uponIn_of_upon h
def noDefer (os:List Oper):Bool:=os.all fun o=>match o.op with | .defer _=>false | _=>true
theorem noDefer_spec {os:List Oper} (h:noDefer os=true):∀o∈os,∀c,o.op≠ .defer c:=by
 intro o ho c e
 have:=(List.all_eq_true.1 h) o ho
 rw [e] at this
 simp at this
theorem anyIn_of_any (hlo:¬LetsOut Q) (hd:∀o∈ops,∀c,o.op≠ .defer c) {md:Region.Mode} :∀(fuel:Nat) (listed:Array Bool) (a:Act) (w:World),wpAny P md ops Q fuel listed a w→wpAnyIn (Fence.wide.inRound l) n P md ops Q fuel listed a w:=by
 intro fuel
 induction fuel with
 | zero=>intro listed a w h;exact h
 | succ fuel ih=>
   intro listed a w h
   refine⟨h.1,fun i hi=> ?_⟩
   have:=h.2 i hi
   unfold wpOp at this
   unfold wpOpIn
   split
   · rename_i ho
     rw [ho] at this
     exact ih _ _ _ this
   · rename_i o ho
     rw [ho] at this
     simp only at this
     split
     · rename_i hw
       rw [if_pos hw] at this
       rcases this with this | ⟨_,hl⟩
       · exact opIn_of_op (hd o (Array.mem_of_getElem? ho)) (Oper.wp_mono (fun a w h=>ih _ a w h) this)
       · exact absurd hl hlo
     · rename_i hw
       rw [if_neg hw] at this
       exact⟨fun f _=>trivial,ih _ _ _ this⟩
end
theorem noDeferA {ops:Array Oper} (h:noDefer ops.toList=true):∀o∈ops,∀c,o.op≠ .defer c:=fun o ho=>noDefer_spec h o (by simpa using ho)
theorem Kept.put1 {A:World} {l:Nat} {o':Obj} :Kept [l] A (A.putObj l o'):=Kept.of_grown (grownBy_putObj' A l o') (fun k e _=>by cases e;simp)
theorem Kept.cut {X Y:List Nat} {A B:World} (h:Kept X A B) (hX:∀i∈X,i<A.heap.size→i∈Y):Kept Y A B:=⟨h.os,h.tape,h.output,h.size,fun i hi hx=>h.block i hi (fun hk=>hx (hX i hk hi))⟩
def postX (X:List Nat) (I:Nat→World→Prop) (Ix:Code→Nat→World→Prop) (k:Nat) (W:World) (e:Exit) (_:Act) (W':World):Prop:=Kept X W W'∧match e with
 | .normal=>I k W'
 | .ret=>Ix .ret k W'
 | .exit id=>Ix (.exit id) k W'
 | .goto t=>Ix (.goto t) k W'
 | .panic _=>False
 | .outgrown=>False
def NoD (W:World) (i:Nat):Prop:=(∀cs T p,W.heap[i]?≠some (.cells cs T p))∧∀es c,W.heap[i]?≠some (.map es c)
theorem noD_loop {W:World} {i:Nat} {o:Loop} (h:W.heap[i]?=some (.loop o)):NoD W i:=⟨(fun _ _ _ e=>by rw [h] at e;cases e),(fun _ _ e=>by rw [h] at e;cases e)⟩
theorem noD_mark {W:World} {i:Nat} {o:Option (List Deferred)} (h:W.heap[i]?=some (.deferred o)):NoD W i:=⟨(fun _ _ _ e=>by rw [h] at e;cases e),(fun _ _ e=>by rw [h] at e;cases e)⟩
theorem NoD.blk {W:World} {i T:Nat} {us:List Value} (h:NoD W i) (hB:Blk W i T us):False:=h.1 _ _ _ hB
def ItV (n F:Nat) (cs:Array Value) (N:Nat) (E:Nat→Array Value→World→Prop) (V:World) (l:Nat) (X:List Nat):Prop:=∀(J Jx:Nat→World→Prop),
 (∀k A B Z,J k A→Kept Z A B→(∀i∈Z,V.heap.size≤i∧NoD A i)→J k B)→(∀k A B Z,Jx k A→Kept Z A B→(∀i∈Z,V.heap.size≤i∧NoD A i)→Jx k B)→
 (∀k x W,k<N→E k x W→J k W→V.heap.size≤W.heap.size→YieldAt Fence.wide 1 Try.prog l x W fun e W'=>Kept X W W'∧((e= .returned (.bool true)∧J (k+1) W')∨(e= .returned (.bool false)∧Jx (k+1) W')))→
 J 0 V→CallsIn Fence.wide n Try.prog F (#[.func (.yield l) #[] #[]]++cs) V fun e W'=>(∃u,e= .returned u)∧Kept X V W'∧(J N W'∨∃k,k<N∧Jx (k+1) W')
theorem wp_rangeV (n F:Nat) (cs:Array Value) (N m:Nat) (E:Nat→Array Value→World→Prop) (hE:∀k x W,E k x W→x.size=m) (X:List Nat) {gv:Operand} {ps:Array Tmp} {assign body:Code} {Q:Exit→Act→World→Prop} {a:Act} {w:World}
   (hg:a.eval gv=(Value.func (.func F) #[] cs)) (hcf:∀(vs:Array Value) (w:World),(callFunc F vs).run Try.prog w= .ok (.enter F vs) w) (hps:ps.size=m) (hX:∀k∈X,k<w.heap.size)
   (hit:∀V,Kept [] w V→w.heap.size+2=V.heap.size→ItV n F cs N E V (w.heap.size+1) ((w.heap.size+1)::X))
   (I:Nat→World→Prop) (Ix:Code→Nat→World→Prop) (hI:∀k A B Z,I k A→Kept Z A B→(∀i∈Z,w.heap.size≤i∧NoD A i)→I k B) (hIx:∀cd k A B Z,Ix cd k A→Kept Z A B→(∀i∈Z,w.heap.size≤i∧NoD A i)→Ix cd k B) (h0:I 0 w)
   (Fr:Nat→Act→World→Prop) (hFr:∀k a' A B,Fr k a' A→Kept [w.heap.size+1] A B→Fr k a' B)
   (hassign:∀(l k:Nat) (x:Array Value) (W:World) (K:Act→World→Prop),k<N→E k x W→I k W→w.heap.size+2≤W.heap.size→(∀a' W',Kept [] W W'→Fr k a' W'→K a' W')→
     assign.wpIn (Fence.wide.inRound l) 1 Try.prog (Exit.then K (fun _ _ _=>False)) { tmps:=(ps.zip x).foldl (fun t (p,v)=>t.setIfInBounds p v) a.tmps,defers:= [] } W)
   (hbody:∀(l k:Nat) (a':Act) (W:World),k<N→I k W→Fr k a' W→w.heap.size+2≤W.heap.size→body.wpIn (Fence.wide.inRound l) 1 Try.prog (postX X I Ix (k+1) W) a' W)
   (hdone:∀(W:World),Kept X w W→w.heap.size+2≤W.heap.size→I N W→W.heap[w.heap.size]?=some (.deferred (some []))→Q .normal { a with defers:= { target:= .collected w.heap.size,args:= #[] } ::a.defers } W)
   (hstop:∀(cd:Code) (k:Nat) (W:World),k<N→Kept X w W→w.heap.size+2≤W.heap.size→Ix cd (k+1) W→W.heap[w.heap.size]?=some (.deferred (some []))→cd.wpIn Fence.wide (n+1) Try.prog Q { a with defers:= { target:= .collected w.heap.size,args:= #[] } ::a.defers } W):
   (Code.rangeFunc gv ps assign body).wpIn Fence.wide (n+1) Try.prog Q a w:=by
 refine wpIn_rangeFunc ?_
 intro fn hfn
 obtain⟨bk,hbk⟩:∃bk:LoopState→Option Code→Loop,bk=fun st pe=> { state:=st,pending:=pe,fn:=fn,tmps:=a.tmps,params:=ps,assign:=assign,body:=body,defers:=w.heap.size } :=⟨_,rfl⟩
 obtain⟨V,hV⟩:∃V,(w.alloc (.deferred (some []))).alloc (.loop (bk .ready none))=V:=⟨_,rfl⟩
 have kV:Kept [] w V:=by rw [← hV];exact((Kept.refl _ _).alloc _).alloc _
 have dV:V.heap[w.heap.size]?=some (.deferred (some [])):=by rw [← hV];exact heap_alloc_old (heap_alloc_new w _)
 have sV:V.heap.size=w.heap.size+2:=by rw [← hV,World.size_alloc,World.size_alloc]
 have lV:V.heap[w.heap.size+1]?=some (.loop (bk .ready none)):=by
   rw [← hV]
   have e:(w.alloc (.deferred (some []))).heap.size=w.heap.size+1:=World.size_alloc _ _
   rw [← e]
   exact heap_alloc_new _ _
 refine⟨w.heap.size+1,[{ target:= .collected w.heap.size,args:= #[] }],V,{ target:= .fn (.func F) cs,args:= #[.func (.yield (w.heap.size+1)) #[] #[]] },V,F,#[.func (.yield (w.heap.size+1)) #[] #[]]++cs,V,?_,?_,fun _ _=>trivial,?_,fun _=>by omega,?_⟩
 · rw [← hV,hbk]
   exact run_enterLoop_outer fn a.tmps ps assign body
 · simp only [resolve,hg]
   simp [go_sem]
 · simp [invoke,go_sem]
   exact hcf _ _
 have xl:∀i∈X,i≠w.heap.size+1∧i≠w.heap.size:=fun i hi=>by have:=hX i hi;omega
 refine(hit V kV sV.symm (fun k W=>I k W∧W.heap[w.heap.size+1]?=some (.loop (bk .ready none))∧W.heap[w.heap.size]?=some (.deferred (some [])))
   (fun k W=>∃cd,Ix cd k W∧W.heap[w.heap.size+1]?=some (.loop (bk .done (some cd)))∧W.heap[w.heap.size]?=some (.deferred (some []))) ?_ ?_ ?_ ⟨?_,lV,dV⟩).mono ?_
 · rintro k A B Z ⟨g1,g2,g3⟩ hk hz
   exact⟨hI k A B Z g1 hk (fun i hi=>⟨by have:=(hz i hi).1;omega,(hz i hi).2⟩),hk.heap g2 (fun e=>by have:=(hz _ e).1;omega),hk.heap g3 (fun e=>by have:=(hz _ e).1;omega)⟩
 · rintro k A B Z ⟨cd,g1,g2,g3⟩ hk hz
   exact⟨cd,hIx cd k A B Z g1 hk (fun i hi=>⟨by have:=(hz i hi).1;omega,(hz i hi).2⟩),hk.heap g2 (fun e=>by have:=(hz _ e).1;omega),hk.heap g3 (fun e=>by have:=(hz _ e).1;omega)⟩
 · rintro k x W hkN hx ⟨g1,g2,g3⟩ hsz
   have hy:=run_yield (P:=Try.prog) (args:=x) g2 (by rw [hbk];show x.size=ps.size;rw [hps];exact hE k x W hx)
   rw [hbk] at hy
   refine⟨fn,_,assign,body,hy,roundIn_of_wpIn hfn (hassign _ k x W _ hkN hx g1 (by omega) fun a' W' hk hF=> ?_)⟩
   have l':=hk.heap g2 (by simp)
   have d':=hk.heap g3 (by simp)
   refine⟨_,run_beginRound l' (by rw [hbk]),?_⟩
   obtain⟨W2,hW2⟩:∃W2,W2=W'.putObj (w.heap.size+1) (.loop { bk .ready none with state:= .busy }):=⟨_,rfl⟩
   rw [← hW2]
   have l2:W2.heap[w.heap.size+1]?=some (.loop { bk .ready none with state:= .busy }):=by rw [hW2];exact World.putObj_heap_same (lt_of_block l')
   have d2:W2.heap[w.heap.size]?=some (.deferred (some [])):=by rw [hW2];exact(World.putObj_heap_other (by omega)).trans d'
   have k2:Kept [w.heap.size+1] W' W2:=by rw [hW2];exact Kept.put1
   have hsz2:w.heap.size+2≤W2.heap.size:=by have:=hk.size;have:=k2.size;omega
   have i2:I k W2:=hI k _ _ _ (hI k _ _ _ g1 hk (by simp)) k2 (fun i hi=>by simp at hi;subst hi;exact⟨by omega,noD_loop l'⟩)
   refine wpIn_mono (hbody _ k a' W2 hkN i2 (hFr k a' _ _ hF k2) hsz2) ?_
   have ends:∀(jump:Option Code) (W3:World),Kept X W2 W3→∃W4,(Instr.endRound (w.heap.size+1) jump).run Try.prog W3= .ok (.bool jump.isNone) W4∧Kept [w.heap.size+1] W3 W4∧Kept ((w.heap.size+1)::X) W W4∧W4.heap[w.heap.size+1]?=some (.loop (bk (if jump.isNone then .ready else .done) jump))∧W4.heap[w.heap.size]?=some (.deferred (some []))∧NoD W3 (w.heap.size+1):=by
     intro jump W3 hk3
     have l3:=hk3.heap l2 (fun e=>(xl _ e).1 rfl)
     have d3:=hk3.heap d2 (fun e=>(xl _ e).2 rfl)
     have hr:=run_endRound (P:=Try.prog) jump l3
     refine⟨_,hr,Kept.put1,(((hk.mono (by simp)).trans (k2.mono (by simp))).trans (hk3.mono (fun i hi=>List.mem_cons_of_mem _ hi))).trans (Kept.put1.mono (by simp)),?_,(World.putObj_heap_other (by omega)).trans d3,noD_loop l3⟩
     rw [World.putObj_heap_same (lt_of_block l3),hbk]
   intro e a3 W3 hp
   obtain⟨kp,hp⟩:=hp
   cases e with
   | normal=>
     obtain⟨W4,hr,e4,e5,l4,d4,nd⟩:=ends none W3 kp
     exact⟨_,_,hr,e5,.inl ⟨rfl,hI _ _ _ _ hp e4 (fun i hi=>by simp at hi;subst hi;exact⟨by omega,nd⟩),l4,d4⟩⟩
   | ret=>
     obtain⟨W4,hr,e4,e5,l4,d4,nd⟩:=ends (some .ret) W3 kp
     exact⟨_,_,hr,e5,.inr ⟨rfl,_,hIx _ _ _ _ _ hp e4 (fun i hi=>by simp at hi;subst hi;exact⟨by omega,nd⟩),l4,d4⟩⟩
   | exit id=>
     obtain⟨W4,hr,e4,e5,l4,d4,nd⟩:=ends (some (.exit id)) W3 kp
     exact⟨_,_,hr,e5,.inr ⟨rfl,_,hIx _ _ _ _ _ hp e4 (fun i hi=>by simp at hi;subst hi;exact⟨by omega,nd⟩),l4,d4⟩⟩
   | goto t=>
     obtain⟨W4,hr,e4,e5,l4,d4,nd⟩:=ends (some (.goto t)) W3 kp
     exact⟨_,_,hr,e5,.inr ⟨rfl,_,hIx _ _ _ _ _ hp e4 (fun i hi=>by simp at hi;subst hi;exact⟨by omega,nd⟩),l4,d4⟩⟩
   | panic ch=>exact hp.elim
   | outgrown=>exact hp.elim
 · exact hI 0 _ _ _ h0 kV (by simp)
 · rintro e W2 ⟨⟨u,rfl⟩,kw,h⟩
   have kX:Kept X w W2:=((kV.mono (by simp)).trans kw).cut (fun i hi hl=>by
     rcases List.mem_cons.1 hi with e | e
     · omega
     · exact e)
   have szW:w.heap.size+2≤W2.heap.size:=by have:=kw.size;omega
   have fin:∀(o':Obj),Kept X w (W2.putObj (w.heap.size+1) o')∧w.heap.size+2≤(W2.putObj (w.heap.size+1) o').heap.size:=fun o'=>by
     refine⟨((kX.mono (Y:=(w.heap.size+1)::X) (fun i hi=>List.mem_cons_of_mem _ hi)).trans (Kept.put1.mono (by simp))).cut (fun i hi hl=> ?_),?_⟩
     · rcases List.mem_cons.1 hi with e | e
       · omega
       · exact e
     · have:=(Kept.put1 (A:=W2) (l:=w.heap.size+1) (o':=o')).size
       omega
   rcases h with ⟨i2,l2,d2⟩ | ⟨k,hk,cd,i2,l2,d2⟩
   · have hr:=run_endLoop (P:=Try.prog) l2 (by rw [hbk];simp)
     rw [hbk] at hr
     exact⟨none,_,hr,hdone _ (fin _).1 (fin _).2 (hI _ _ _ _ i2 Kept.put1 (fun i hi=>by simp at hi;subst hi;exact⟨by omega,noD_loop l2⟩)) ((World.putObj_heap_other (by omega)).trans d2)⟩
   · have hr:=run_endLoop (P:=Try.prog) l2 (by rw [hbk];simp)
     rw [hbk] at hr
     exact⟨some cd,_,hr,hstop cd k _ hk (fin _).1 (fin _).2 (hIx _ _ _ _ _ i2 Kept.put1 (fun i hi=>by simp at hi;subst hi;exact⟨by omega,noD_loop l2⟩)) ((World.putObj_heap_other (by omega)).trans d2)⟩
theorem _root_.Go.CallsIn.wide_any {n m:Nat} {P:Program} {f:FuncId} {args:Array Value} {w:World} {R:Ending→World→Prop} (h:CallsIn Fence.wide n P f args w R):CallsIn Fence.wide m P f args w R:=callsIn_wide.2 (callsIn_wide.1 h)
theorem ItV.any {n m F l N:Nat} {cs:Array Value} {E:Nat→Array Value→World→Prop} {V:World} {X:List Nat} (h:ItV n F cs N E V l X):ItV m F cs N E V l X:=fun J Jx h1 h2 h3 h4=>CallsIn.wide_any (h J Jx h1 h2 h3 h4)
theorem o_yield {l lp m k:Nat} {o:Oper} {a:Act} {w:World} {K:Act→World→Prop} {Q:Exit→Act→World→Prop} (t:Nat) (args:Array Operand) (ts:Array TypeId) (ho:o.op= .call { callee:= .value (.tmp t),args:=args,argTypes:=ts }) (hf:a.eval (.tmp t)= .func (.yield lp) #[] #[]) (vs:Array Value) (hv:args.map a.eval=vs)
   {R:Ending→World→Prop} (hy:YieldAt Fence.wide m Try.prog lp vs w R) (hK:∀e w',R e w'→∃v,e= .returned v∧K (a.put o.dst v) w'):o.wpIn (Fence.wide.inRound l) k Try.prog a w K Q:=by
 obtain⟨fn,tmps,assign,body,hr,hR⟩:=hy
 subst hv
 refine⟨fun f _=>trivial,?_⟩
 rw [Fence.inRound_round,Oper.semAt_some l _ o (fun c e=>by rw [ho] at e;cases e)]
 unfold execOp
 simp only [ho,resolve,hf]
 simp [invoke,go_sem,hr]
 refine⟨?_,hR.1,fun c cs _=> ?_⟩
 · intro h;simp [Fence.wide] at h
 · obtain⟨e,w',hre,hs⟩:=hR.2 c cs (room_wide _)
   obtain⟨v,rfl,hk⟩:=hK e w' hre
   exact⟨.returned v,w',hk,hs⟩
theorem inYield {l lp m k:Nat} {ops:Array Oper} {rest:List Oper} {o:Oper} {a:Act} {w:World} {Q:Exit→Act→World→Prop} (hw:Region.wanted o (yielded ops a.tmps)=true) (t:Nat) (args:Array Operand) (ts:Array TypeId) (ho:o.op= .call { callee:= .value (.tmp t),args:=args,argTypes:=ts }) (hf:a.eval (.tmp t)= .func (.yield lp) #[] #[]) (vs:Array Value) (hv:args.map a.eval=vs)
   {R:Ending→World→Prop} (hy:YieldAt Fence.wide m Try.prog lp vs w R) (hK:∀e w',R e w'→∃v,e= .returned v∧wpListIn (Fence.wide.inRound l) k Try.prog ops Q rest (a.put o.dst v) w'):wpListIn (Fence.wide.inRound l) k Try.prog ops Q (o::rest) a w:=
 wpListIn_want hw (o_yield t args ts ho hf vs hv hy hK)
end Go.Proofs.Ytbigongmlpoahaa
namespace Go.Proofs.Ytbigongmlpoahaa.D
set_option maxHeartbeats 4000000
set_option maxRecDepth 100000
set_option linter.unusedSimpArgs false
open Go.RowKit Go.Shelf
attribute [local go_sem] Oper.semAt_some
section
variable {ops:Array Oper} {rest:List Oper} {op:Oper} {a:Act} {w:World} {Q:Exit→Act→World→Prop}
theorem wpBoxQ {T:Nat} (hgd:op.guard=none) (x:Operand) (ho:op.op= .box T x) (p:Option Addr) (hx:a.eval x= .pointer p)
   (h:∀W b,b=w.heap.size→Blk W b T [.pointer p]→Kept [] w W→wpList Try.prog ops Q rest (a.put op.dst (P0 b)) W):wpList Try.prog ops Q (op::rest) a w:=
 wpList_plain hgd fun _ hK=>by
   unfold Oper.wp execOp
   simp only [ho,hx]
   exact hK _ _ (h _ _ rfl (Blk.new w T _) ((Kept.refl _ _).alloc _))
end
section
variable {F:Fence} {n:Nat} {ops:Array Oper} {rest:List Oper} {o:Oper} {a:Act} {w:World} {Q:Exit→Act→World→Prop}
theorem inLook2 (hF:∀f,F.fn f) (hw:Region.wanted o (yielded ops a.tmps)=true) (x y:Operand) (ho:o.op= .lookup 53 x y true) (hsem:o.semAt F.round a.eval=execOp a.eval o) (mb:Nat) (L:List En) (m:Int) (v:Value) (f:Bool) (hx:a.eval x= .map (some mb)) (hy:a.eval y= .int .i64 m) (hv:lookV m L=v) (hf:(placeOf m L 0).isSome=f) (hM:MapAt w mb L)
   (h:wpListIn F n Try.prog ops Q rest (a.put o.dst (.tuple #[v,.bool f])) w):wpListIn F n Try.prog ops Q (o::rest) a w:=by
 subst hv
 subst hf
 refine wpListIn_want hw (wpIn_value (v:= .tuple #[lookV m L,.bool (placeOf m L 0).isSome]) (w':=w) hF hsem ?_ h)
 unfold execOp
 simp only [ho,hx,hy,Sem.run_bind,run_look w mb L m hM,Result.andThen_ok,Sem.run_pure]
end
def riseTo (p:Nat) (L:List Lk):List Lk:=(List.range p).filterMap fun i:Nat=>lkOf (i:Int) L
def rise (L:List Lk):List Lk:=riseTo 16 L
theorem riseTo_succ (p:Nat) (L:List Lk):riseTo (p+1) L=riseTo p L++(lkOf (p:Int) L).toList:=by
 unfold riseTo
 rw [List.range_succ,List.filterMap_append]
 congr 1
theorem riseTo_pre {p q:Nat} (h:p≤q) (L:List Lk):riseTo p L <+: riseTo q L:=by
 induction q with
 | zero=>
   obtain rfl:p=0:=by omega
   exact List.prefix_rfl
 | succ q ih=>
   by_cases e:p=q+1
   · rw [e];exact List.prefix_rfl
   · rw [riseTo_succ]
     exact(ih (by omega)).trans (List.prefix_append _ _)
theorem rise_at {p:Nat} {L:List Lk} {y:Lk} (hp:p<16) (h:lkOf (p:Int) L=some y):(rise L)[(riseTo p L).length]?=some y:=by
 have h1:=riseTo_pre (show p+1≤16 by omega) L
 obtain⟨T,hT⟩:=h1
 unfold rise
 rw [← hT,riseTo_succ,h]
 simp
def RiE (L:List Lk) (k:Nat) (x:Array Value) (_:World):Prop:=∃y,(rise L)[k]?=some y∧x= #[.int .i64 y.k,P0 y.p]
theorem RiE.two {L:List Lk} {k:Nat} {x:Array Value} {W:World} (h:RiE L k x W):x.size=2:=by
 obtain⟨y,_,rfl⟩:=h
 rfl
theorem ent73:Ent 73:=fun vs w=>by kernel_rfl
theorem rising38 (p:Option Addr) (w:World):Calls Try.prog 38 #[.pointer p] w fun e W=>∃c,e= .returned (fnV 73 #[P0 c])∧Blk W c 42 [.pointer p]∧w.heap.size≤c∧Kept [] w W:=by
 go_enter Try.func38,Try.ntmps38
 go_wp2_with (first |(refine wpBoxQ rfl (.tmp 0) rfl p rfl ?_;intro W1 c e1 B1 K1;have HB:=hide B1;have HC:Hid (w.heap.size≤c):=(by show _≤_;omega);have HK:=hide K1;clear e1 B1 K1;refine Stp.go ?_))
 constructor
 go_wp2_with fail
 go_ret
 exact⟨c,rfl,unhide HB,unhide HC,unhide HK⟩
variable {V:World} {b mb c:Nat} {L:List Lk}
theorem rising73_in (l:Nat) (X:List Nat) (hc:Blk V c 42 [P0 b]) (hb:Blk V b 55 [.map (some mb)]) (hm:MapAt V mb (L.map Lk.e)) (hA:∃A,Dg A V b mb L) (h1:c∉X) (h2:b∉X) (h3:mb∉X):ItV 2 73 #[P0 c] (rise L).length (RiE L) V l X:=by
 intro J Jx hJ hJx hY h0
 obtain⟨A,hD⟩:=hA
 have hFw:=wideF
 have HC:=hide hc
 have HBb:=hide hb
 have HM:=hide hm
 have HDG:=hide hD
 have HX1:=hide h1
 have HX2:=hide h2
 have HX3:=hide h3
 have H0:=hide h0
 have HJ:=hide hJ
 have HJX:=hide hJx
 have HY:=hide hY
 have c1:=fits_cell hc 0 _ rfl
 clear hc hb hm h1 h2 h3 h0 hJ hJx hY hD
 rw [callsIn_wide]
 show Calls Try.prog 73 #[.func (.yield l) #[] #[],P0 c] V _
 go_enter Try.func73,Try.ntmps73
 go_wp2_with (first |(go_at_call 35;refine(none35 (unhide HDG)).mono ?_;rintro e W9 ⟨rfl,q9⟩;replace q9:=q9.symm;subst q9;refine Stp.go ?_))
 constructor
 go_wp2_with fail
 have HI0:Hid (J 0 V):=H0
 have HK0:Hid (Kept X V V):=hide (Kept.refl _ _)
 clear H0 c1
 rw [← wpIn_wide (n:=2)]
 gi_loopw [8] (fun i w1=>∃p:Nat,p≤16∧i= .int .i64 p∧Hid (J (riseTo p L).length w1)∧Hid (Kept X V w1)) (fun i _=>16-(intOf i).toNat)
 case atStart=>exact ⟨0,by omega,rfl,by rw [show (riseTo 0 L).length=0 from rfl];exact HI0,HK0⟩
 case round=>
   clear HI0 HK0
   obtain⟨p,hp,rfl,HI,HK⟩:=hrel
   by_cases hlt:p<16
   · have hpI:(p:Int)<16:=by omega
     have hd:decide ((p:Int)<16)=true:=by simpa using hpI
     have c1:=fits_cell ((unhide HC).kept (unhide HK) (unhide HX1)) 0 _ rfl
     have c0:=fits_cell ((unhide HBb).kept (unhide HK) (unhide HX2)) 0 _ rfl
     have hk1:=look_lk (p:Int) L
     cases hq:lkOf (p:Int) L with
     | none=>
       rw [hq] at hk1
       have HL:Hid (lookV (p:Int) (L.map Lk.e)= .pointer none):=hk1.1
       have HF:Hid ((placeOf (p:Int) (L.map Lk.e) 0).isSome=false):=hk1.2
       have HS:Hid ((riseTo (p+1) L).length=(riseTo p L).length):=by show _=_;rw [riseTo_succ,hq];simp
       clear hk1 hq
       gi_wp2_with (
         first
         |(refine inLook2 wideF (by rfl) (.tmp 15) (.tmp 16) (by rfl) (by rfl) mb (L.map Lk.e) (p:Int) _ false (by rfl) (by rfl) (unhide HL) (unhide HF) ((unhide HM).kept (unhide HK) (unhide HX3)) ?_))
       go_roundw
       case rel=>exact ⟨p+1,by omega,by go_num,by rw [unhide HS];exact HI,HK⟩
       case measure=>simp [intOf];omega
     | some y=>
       rw [hq] at hk1
       have HL:Hid (lookV (p:Int) (L.map Lk.e)=P0 y.p):=hk1.1
       have HF:Hid ((placeOf (p:Int) (L.map Lk.e) 0).isSome=true):=hk1.2
       have HS:Hid ((riseTo (p+1) L).length=(riseTo p L).length+1):=by show _=_;rw [riseTo_succ,hq];simp
       have hat:=rise_at hlt hq
       have hkl:(riseTo p L).length<(rise L).length:=(List.getElem?_eq_some_iff.1 hat).1
       have HKL:=hide hkl
       have hyk:=(lkOf_some hq).2
       obtain⟨fn,tmps,assign,body,hy,hR9⟩:=unhide HY _ #[.int .i64 (p:Int),P0 y.p] wr hkl ⟨y,hat,by rw [hyk]⟩ (unhide HI) (unhide HK).size
       have hR':=hide hR9
       clear hk1 hq hR9 hat hkl hyk
       gi_wp2_with (
         first
         |(refine inLook2 wideF (by rfl) (.tmp 15) (.tmp 16) (by rfl) (by rfl) mb (L.map Lk.e) (p:Int) _ true (by rfl) (by rfl) (unhide HL) (unhide HF) ((unhide HM).kept (unhide HK) (unhide HX3)) ?_))
       refine(unhide hR').mono ?_
       rintro e W8 ⟨K8,⟨rfl,hI8⟩ | ⟨rfl,hX8⟩⟩
       · have HI8:=hide hI8
         replace HK:=hide ((unhide HK).trans K8)
         clear hI8 hR' hy K8
         gi_wp2
         go_roundw
         case rel=>exact ⟨p+1,by omega,by go_num,by rw [unhide HS];exact HI8,HK⟩
         case measure=>simp [intOf];omega
       · have HX8:=hide hX8
         replace HK:=hide ((unhide HK).trans K8)
         clear hX8 hR' hy K8
         gi_wp2
         refine bodyPost_ret (results_none rfl _ _ _) rfl ?_
         exact⟨⟨_,rfl⟩,unhide HK,.inr ⟨_,unhide HKL,unhide HX8⟩⟩
   · obtain rfl:p=16:=by omega
     have hd:decide (((16:Nat):Int)<16)=false:=by decide
     gi_wp2_with fail
     go_end0
     exact⟨⟨_,rfl⟩,unhide HK,.inl (unhide HI)⟩
end Go.Proofs.Ytbigongmlpoahaa.D
namespace Go.Proofs.Ytbigongmlpoahaa.D
set_option maxHeartbeats 8000000
set_option maxRecDepth 100000
set_option linter.unusedSimpArgs false
open Go.RowKit Go.Shelf
attribute [local go_sem] Oper.semAt_some
variable {w W V:World} {A b mb c:Nat} {L:List Lk} {v:Value} {p:Option Addr}
theorem res21 (w:World) (b:Nat) (v:Bool) (tmps:Array Value) (h2:tmps[2]?.getD undef=P0 b) (hb:Blk w b 4 [.bool v]):(results Try.f21 tmps).run Try.prog w= .ok (.bool v) w:=by
 have hc:=fits_cell hb 0 _ rfl
 simp [results,Try.results21,h2,asAddr,go_sem,hc]
theorem idle_leaves {D z:Nat} {bv:Bool} {tmps:Array Value} (h2:tmps[2]?.getD undef=P0 z) (hz:Blk W z 4 [.bool bv]) (hk:Kept [] w W) (h1:W.heap[D]?=some (.deferred (some []))) (g1:w.heap.size≤D):
   LeavesInM Fence.wide 3 Try.prog Try.f21 tmps (fun e w'=>e= .returned (.bool bv)∧Kept [] w w') [{ target:= .collected D,args:= #[] }] .returning W:=by
 have n1:z≠D:=by intro e;have:=hz;subst e;unfold Blk at this;rw [this] at h1;cases h1
 have k1:Kept [D] W (W.putObj D (.deferred none)):=Kept.put1
 refine⟨by simp,.inl ⟨_,_,rfl,run_takeDeferred h1,?_⟩⟩
 exact⟨_,res21 _ _ _ _ h2 (hz.kept k1 (by simpa using n1)),rfl,hk.fresh k1 (fun i hi hl=>by simp at hi;omega)⟩
theorem zero4d (w:World):(Instr.alloc 4 true (.tuple #[])).run Try.prog w= .ok (P0 w.heap.size) (w.alloc (.cells [Value.bool false].toArray 4)):=by kernel_rfl
theorem size4d:(Try.prog.info? 4).map (·.size)=some 1:=by kernel_rfl
theorem st1d {T:Nat} (hs:(Try.prog.info? T).map (·.size)=some 1) {v:Value} (h1:One v):∀(w:World) (b:Nat) (u:Value),Blk w b T [u]→(storeVar T ⟨b,0,none⟩ v).run Try.prog w= .ok () (w.setCell ⟨b,0,none⟩ v):=fun _ _ _ h=>storeVar1 hs h (by simp) v h1.1 h1.2
def idleD (L:List Lk):Bool:=(rise L).all fun y=> !y.s.busy
theorem Dg.lts (h:Dg A w b mb L):b<w.heap.size∧mb<w.heap.size∧∀x∈L,x.p<w.heap.size∧∀i,x.ln.ownBlock=some i→i<w.heap.size:=
 ⟨h.blk.lt,h.map.lt,fun x hx=>⟨(h.lk x hx).blk.lt,fun _ hi=>(h.lk x hx).row.lt hi⟩⟩
theorem Dg.fresh {X:List Nat} {B:Nat} (h:Dg A w b mb L) (hl:b<B∧mb<B∧∀x∈L,x.p<B∧∀i,x.ln.ownBlock=some i→i<B) (hk:Kept X w W) (hX:∀i∈X,B≤i):Dg A W b mb L:=
 h.step hk (fun e=>by have:=hX _ e;omega) (fun e=>by have:=hX _ e;omega) (fun x hx=>⟨fun e=>by have:=hX _ e;have:=(hl.2.2 x hx).1;omega,fun i hi e=>by have:=hX _ e;have:=(hl.2.2 x hx).2 i hi;omega⟩)
theorem rise_mem {y:Lk} (h:y∈rise L):y∈L:=by
 unfold rise riseTo at h
 obtain⟨_,_,hi⟩:=List.mem_filterMap.1 h
 exact(lkOf_some hi).1
structure Id (w W:World) (A b mb z:Nat) (L:List Lk):Prop where
 dg:Dg A W b mb L
 z:Blk W z 4 [.bool false]
 k:Kept [] w W
def idFr (t:Array Value) (y:Lk):Act:= { tmps:=((t.setIfInBounds 7 (.int .i64 y.k)).setIfInBounds 8 (P0 y.p)).setIfInBounds 4 (P0 y.p),defers:= [] }
theorem idle21 (h:Dg A w b mb L):Calls Try.prog 21 #[P0 b] w fun e W=>e= .returned (.bool (idleD L))∧Kept [] w W:=by
 have H:=hide h
 have hFw:=wideF
 clear h
 refine(callsIn_wide (n:=3)).1 ?_
 refine callsIn_of_wp_marks Try.func21 rfl trivial ?_ rfl
 refine wpIn_wide.2 ?_
 simp only [Try.ntmps21,List.size_toArray,List.length_cons,List.length_nil,Nat.reduceAdd,Nat.reduceSub,Array.replicate_succ,Array.replicate_zero,List.push_toArray,List.append_toArray,List.nil_append,List.cons_append]
 go_wp2_with (first |(refine wpAllocW ([Value.bool false]) zero4d 2 rfl rfl rfl ?_;intro W1 z e1 B1 K1;have HZ:=hide B1;have HK:=hide K1;have HG:Hid (w.heap.size≤z):=(by show _≤_;omega);clear e1 B1 K1;refine Stp.go ?_))
 constructor
 go_wp2_with (first |(go_at_call 38;refine(rising38 (some ⟨b,0,none⟩) _).mono ?_;rintro e W2 ⟨c,rfl,hc,hg,K2⟩;have HC:=hide hc;have HGC:Hid (z<c):=(by have:=(unhide HZ).lt;show _<_;omega);replace HZ:=hide ((unhide HZ).kept K2 (by simp));replace HK:=hide ((unhide HK).trans K2);clear hc hg K2;refine Stp.go ?_))
 constructor
 go_wp2_with fail
 refine(wpIn_wide (n:=3)).1 ?_
 have HI:Hid (Id w W2 A b mb z L):=⟨(unhide H).step0 (unhide HK),unhide HZ,unhide HK⟩
 have HLT:=hide (unhide HI).dg.lts
 have HZL:Hid (z<W2.heap.size):=(unhide HZ).lt
 have hbz:b≠z:=by have h1:=(unhide H).blk.lt;have h2:=unhide HG;omega
 have hmz:mb≠z:=by have h1:=(unhide H).map.lt;have h2:=unhide HG;omega
 have hcz:c≠z:=by have h1:=unhide HGC;omega
 have hxz:∀x∈L,x.p≠z∧∀i,x.ln.ownBlock=some i→i≠z:=fun x hx=>⟨by have h1:=((unhide H).lk x hx).blk.lt;have h2:=unhide HG;omega,fun i hi=>by have h1:=((unhide H).lk x hx).row.lt hi;have h2:=unhide HG;omega⟩
 have HNE:=hide (show b≠z∧mb≠z∧c≠z∧∀x∈L,x.p≠z∧∀i,x.ln.ownBlock=some i→i≠z from⟨hbz,hmz,hcz,hxz⟩)
 clear hbz hmz hcz hxz HZ HK
 refine wp_rangeV 2 73 #[P0 c] (rise L).length 2 (RiE L) (fun k x W h=>h.two) [z] rfl ent73 rfl (by intro k hk;simp at hk;rw [hk];exact unhide HZL) ?it (fun k W=>Id w W A b mb z L∧∀j,j<k→∀y,(rise L)[j]?=some y→y.s.busy=false)
   (fun cd k W=>cd= .ret∧Blk W z 4 [.bool false]∧Kept [] w W∧∃y∈rise L,y.s.busy=true) ?i1 ?i2 ⟨unhide HI,fun j hj=>by omega⟩ (fun k a' W=>∃y,(rise L)[k]?=some y∧a'=idFr #[P0 b,undef,P0 z,undef,undef,P0 b,fnV 73 #[P0 c],undef,undef,undef,undef,undef] y) ?f1 ?ag ?bd ?dn ?st
 case it=>
   intro V hk hs
   have hlt:=unhide HLT
   have hzl:=unhide HZL
   have hne:=unhide HNE
   have hcl:=(unhide HC).lt
   have hI:=unhide HI
   refine rising73_in _ _ ((unhide HC).kept hk (by simp)) (hI.dg.blk.kept hk (by simp)) (hI.dg.map.kept hk (by simp)) ⟨A,hI.dg.step0 hk⟩ ?_ ?_ ?_
   · simp;omega
   · simp;omega
   · simp;omega
 case i1=>
   rintro k A1 B1 Z ⟨h1,h2⟩ hk hz
   have hzl:=unhide HZL
   have hg:=unhide HG
   exact⟨⟨h1.dg.fresh (unhide HLT) hk (fun i hi=>(hz i hi).1),h1.z.kept hk (fun e=>by have:=(hz _ e).1;omega),h1.k.fresh hk (fun i hi hl=>by have:=(hz i hi).1;have:=(unhide HI).k.size;omega)⟩,h2⟩
 case i2=>
   rintro cd k A1 B1 Z ⟨h1,h2,h3,h4⟩ hk hz
   have hzl:=unhide HZL
   exact⟨h1,h2.kept hk (fun e=>by have:=(hz _ e).1;omega),h3.fresh hk (fun i hi hl=>by have:=(hz i hi).1;have:=(unhide HI).k.size;omega),h4⟩
 case f1=>exact fun k a' A1 B1 h _=>h
 case ag=>
   rintro l k x W K hkN ⟨y,hy,rfl⟩ hI hsz hK
   simp only [List.zip_toArray,List.zip_cons_cons,List.zip_nil_right,List.foldl_toArray,List.foldl_cons,List.foldl_nil,List.setIfInBounds_toArray,List.set_cons_succ,List.set_cons_zero]
   have HKK:=hide (hK _ W (Kept.refl _ _) ⟨y,hy,rfl⟩)
   clear hK hI hy
   simp only [idFr,List.setIfInBounds_toArray,List.set_cons_succ,List.set_cons_zero] at HKK
   gi_wp2
   exact unhide HKK
 case bd=>
   rintro l k a' W hkN ⟨hI,hall⟩ ⟨y,hy,rfl⟩ hsz
   simp only [idFr,List.setIfInBounds_toArray,List.set_cons_succ,List.set_cons_zero]
   have hyL:y∈rise L:=List.mem_of_getElem? hy
   have HYL:=hide hyL
   have HB:=hide (hI.dg.lk y (rise_mem hyL)).blk
   have HZ:=hide hI.z
   have HII:=hide hI
   have HALL:=hide hall
   have HY:=hide hy
   clear hI hall hy hyL
   cases hb:y.s.busy with
   | false=>
     have HBB:=hide hb
     clear hb
     gi_wp2_with (
       first
       |(refine CallsIn.mono (CallsIn.inRound l (callsIn_wide.2 (idle17 y.s y.ln y.p _ (unhide HB)))) ?_;rw [show y.s.busy=false from unhide HBB];rintro e W5 ⟨rfl,q9⟩;replace q9:=q9.symm;subst q9)
       | fail)
     refine⟨Kept.refl _ _,unhide HII,fun j hj z hz=> ?_⟩
     by_cases e:j=k
     · subst e
       rw [unhide HY] at hz
       cases hz
       exact unhide HBB
     · exact unhide HALL j (by omega) z hz
   | true=>
     have HBB:=hide hb
     clear hb
     gi_wp2_with (
       first
       |(refine CallsIn.mono (CallsIn.inRound l (callsIn_wide.2 (idle17 y.s y.ln y.p _ (unhide HB)))) ?_;rw [show y.s.busy=true from unhide HBB];rintro e W5 ⟨rfl,q9⟩;replace q9:=q9.symm;subst q9)
       |(refine inStore1 (.bool false) (.bool false) (st1d size4d ⟨rfl,rfl⟩) wideF (by rfl) (.tmp 2) (.const (.bool false)) (by rfl) (by rfl) (by rfl) z (by rfl) (by rfl) (unhide HZ) ?_;intro W7 B7 e7;have HB7:=hide B7;have HK7:Hid (Kept [z] W W7):=(by rw [e7];exact(Kept.refl _ _).setCell (p:=⟨z,0,none⟩) (by simp) _);clear B7 e7)
       | fail)
     have hk7:=unhide HK7
     exact⟨hk7,rfl,unhide HB7,(unhide HII).k.fresh hk7 (fun i hi hl=>by simp at hi;have:=unhide HG;omega),y,unhide HYL,unhide HBB⟩
 case dn=>
   intro W hk hsz hI hD
   have HE:Hid (idleD L=true):=by
     show _=_
     unfold idleD
     rw [List.all_eq_true]
     intro y hy
     obtain⟨j,hj⟩:=List.getElem?_of_mem hy
     rw [hI.2 j (List.getElem?_eq_some_iff.1 hj).1 y hj]
     rfl
   have HZ:=hide hI.1.z
   have HKW:=hide hI.1.k
   have HD:=hide hD
   clear hI hD hk
   go_upto_region 5 with fail
   refine(wpIn_wide (n:=3)).1 ?_
   gi_wp2_with (
     first
     |(refine inStore1 (.bool false) (.bool true) (st1d size4d ⟨rfl,rfl⟩) wideF (by rfl) (.tmp 2) (.const (.bool true)) (by rfl) (by rfl) (by rfl) z (by rfl) (by rfl) (unhide HZ) ?_;intro W7 B7 e7;have HB7:=hide B7;have HK7:Hid (Kept [z] W W7):=(by rw [e7];exact(Kept.refl _ _).setCell (p:=⟨z,0,none⟩) (by simp) _);clear B7 e7)
     | fail)
   have hk7:=unhide HK7
   have hne:W2.heap.size≠z:=by have:=unhide HZL;omega
   go_wp2_with fail
   rw [unhide HE]
   exact idle_leaves rfl (unhide HB7) ((unhide HKW).fresh hk7 (fun i hi hl=>by simp at hi;have:=unhide HG;omega)) (hk7.heap (unhide HD) (by simpa using hne)) (unhide HI).k.size
 case st=>
   rintro cd k W hk hkX hsz ⟨rfl,h2,h3,y,h4,h5⟩ hD
   have HE:Hid (idleD L=false):=by
     show _=_
     unfold idleD
     exact List.all_eq_false.2 ⟨y,h4,by rw [h5];decide⟩
   have HZ:=hide h2
   have HKW:=hide h3
   have HD:=hide hD
   clear h2 h3 hD h4 h5 hkX
   gi_wp2
   rw [unhide HE]
   exact idle_leaves rfl (unhide HZ) (unhide HKW) (unhide HD) (unhide HI).k.size
end Go.Proofs.Ytbigongmlpoahaa.D
namespace Go.Proofs.Ytbigongmlpoahaa.D
set_option maxHeartbeats 8000000
set_option maxRecDepth 100000
set_option linter.unusedSimpArgs false
open Go.RowKit Go.Shelf
attribute [local go_sem] Oper.semAt_some
section
variable {ops:Array Oper} {rest:List Oper} {op:Oper} {a:Act} {w:World} {Q:Exit→Act→World→Prop}
theorem wpBoxY {T:Nat} (hgd:op.guard=none) (x:Operand) (ho:op.op= .box T x) (l:Nat) (hx:a.eval x= .func (.yield l) #[] #[])
   (h:∀W b,b=w.heap.size→Blk W b T [.func (.yield l) #[] #[]]→Kept [] w W→wpList Try.prog ops Q rest (a.put op.dst (P0 b)) W):wpList Try.prog ops Q (op::rest) a w:=
 wpList_plain hgd fun _ hK=>by
   unfold Oper.wp execOp
   simp only [ho,hx]
   exact hK _ _ (h _ _ rfl (Blk.new w T _) ((Kept.refl _ _).alloc _))
end
def cntT {α:Type} (f:Lk→Option α) (R:List Lk) (k:Nat):Nat:=((R.take k).filterMap f).length
theorem cntT_some {α:Type} {f:Lk→Option α} {R:List Lk} {k:Nat} {y:Lk} {u:α} (h:R[k]?=some y) (hf:f y=some u):cntT f R (k+1)=cntT f R k+1∧(R.filterMap f)[cntT f R k]?=some u:=by
 unfold cntT
 have e:R.take (k+1)=R.take k++ [y]:=by rw [List.take_add_one,h];rfl
 refine⟨by rw [e,List.filterMap_append,List.length_append];simp [hf],?_⟩
 have h2:R=R.take (k+1)++R.drop (k+1):=(List.take_append_drop _ _).symm
 have h3:R.filterMap f=(R.take k).filterMap f++([u]++(R.drop (k+1)).filterMap f):=by
   conv=>lhs;rw [h2,e]
   rw [List.filterMap_append,List.filterMap_append]
   simp [hf]
 rw [h3]
 simp
theorem cntT_none {α:Type} {f:Lk→Option α} {R:List Lk} {k:Nat} {y:Lk} (h:R[k]?=some y) (hf:f y=none):cntT f R (k+1)=cntT f R k:=by
 unfold cntT
 rw [show R.take (k+1)=R.take k++ [y] from by rw [List.take_add_one,h];rfl,List.filterMap_append,List.length_append]
 simp [hf]
theorem cntT_all {α:Type} (f:Lk→Option α) (R:List Lk):cntT f R R.length=(R.filterMap f).length:=by unfold cntT;rw [List.take_length]
def tellM (m:Int) (y:Lk):Option (Int×Int):=if (holdsP y.s m).2=true then some (y.k,(holdsP y.s m).1) else none
def heldL (m:Int) (L:List Lk):List (Int×Int):=(rise L).filterMap (tellM m)
def HeE (m:Int) (L:List Lk) (k:Nat) (x:Array Value) (_:World):Prop:=∃u,(heldL m L)[k]?=some u∧x= #[.int .i64 u.1,.int .i64 u.2]
theorem HeE.two {m:Int} {L:List Lk} {k:Nat} {x:Array Value} {W:World} (h:HeE m L k x W):x.size=2:=by
 obtain⟨y,_,rfl⟩:=h
 rfl
theorem ent89:Ent 89:=fun vs w=>by kernel_rfl
variable {w W V:World} {A b mb c1 c2 cn:Nat} {L:List Lk} {v:Value} {y:Lk} {m:Int}
theorem cl58 (h:Blk w y.p 108 (y.s.C y.ln)) (hn:Blk w cn 3 [.int .i64 m]):Calls Try.prog 58 (#[P0 y.p]++ #[P0 cn]) w fun e w'=>e= .returned (.tuple #[.int .i64 (holdsP y.s m).1,.bool (holdsP y.s m).2])∧w'=w:=by
 have H:=hide h
 have k0:=fits_cell hn 0 _ rfl
 clear h hn
 show Calls Try.prog 58 #[P0 y.p,P0 cn] w _
 go_enter Try.func58,Try.ntmps58
 go_wp2_with (first |(go_at_call 59;refine(holds18 y.s y.ln y.p m w (unhide H)).mono ?_;rintro e W9 ⟨rfl,q9⟩;replace q9:=q9.symm;subst q9;refine Stp.go ?_))
 constructor
 go_wp2_with fail
 go_ret2
 exact⟨rfl,rfl⟩
structure Off (X:List Nat) (b mb:Nat) (L:List Lk) (cs:List Nat):Prop where
 b:b∉X
 mb:mb∉X
 lk:∀x∈L,x.p∉X∧∀i,x.ln.ownBlock=some i→i∉X
 cs:∀c∈cs,c∉X
theorem as89_in (l:Nat) (X:List Nat) (hX:∀k∈X,k<V.heap.size) (h1:Blk V c1 42 [P0 b]) (h2:Blk V c2 103 [fnV 58 #[P0 cn]]) (h3:Blk V cn 3 [.int .i64 m]) (hD:Dg A V b mb L) (ho:Off X b mb L [c1,c2,cn]):ItV 3 89 #[P0 c1,P0 c2] (heldL m L).length (HeE m L) V l X:=by
 intro J Jx hJ hJx hY h0
 have hFw:=wideF
 have HX:=hide hX
 have HC1:=hide h1
 have HC2:=hide h2
 have HCN:=hide h3
 have HD:=hide hD
 have HO:=hide ho
 have H0:=hide h0
 have HJ:=hide hJ
 have HJX:=hide hJx
 have HY:=hide hY
 have k0:=fits_cell h1 0 _ rfl
 clear hX h1 h2 h3 hD ho h0 hJ hJx hY
 show CallsIn Fence.wide 3 Try.prog 89 #[.func (.yield l) #[] #[],P0 c1,P0 c2] V _
 refine callsIn_of_wp_marks Try.func89 rfl trivial ?_ rfl
 refine wpIn_wide.2 ?_
 simp only [Try.ntmps89,List.size_toArray,List.length_cons,List.length_nil,Nat.reduceAdd,Nat.reduceSub,Array.replicate_succ,Array.replicate_zero,List.push_toArray,List.append_toArray,List.nil_append,List.cons_append]
 go_wp2_with (first |(refine wpBoxY rfl (.tmp 0) rfl l rfl ?_;intro W1 b4 e1 B1 K1;have HK:=hide K1;have HB4:=hide B1;have HG4:Hid (V.heap.size≤b4):=(by show _≤_;omega);have k1:=K1.cell k0 (by simp);clear e1 B1 K1 k0;refine Stp.go ?_))
 constructor
 go_wp2_with (first |(go_at_call 38;refine(rising38 (some ⟨b,0,none⟩) _).mono ?_;rintro e W3 ⟨c3,rfl,hb3,hg3,K3⟩;have HC3:=hide hb3;have HG3:Hid (V.heap.size≤c3):=Nat.le_trans (unhide HK).size hg3;replace HB4:=hide ((unhide HB4).kept K3 (by simp));replace HK:=hide ((unhide HK).trans K3);clear hb3 hg3 K3 k1;refine Stp.go ?_))
 constructor
 go_wp2_with fail
 refine(wpIn_wide (n:=3)).1 ?_
 refine wp_rangeV 2 73 #[P0 c3] (rise L).length 2 (RiE L) (fun k x W h=>h.two) X rfl ent73 rfl (fun k hk=>Nat.lt_of_lt_of_le ((unhide HX) k hk) (unhide HK).size) ?it
   (fun k W=>J (cntT (tellM m) (rise L) k) W∧Kept X V W∧Blk W b4 118 [.func (.yield l) #[] #[]])
   (fun cd _ W=>cd= .ret∧(∃j,j<(heldL m L).length∧Jx (j+1) W)∧Kept X V W) ?i1 ?i2 ?i0
   (fun k a' W=>∃y,(rise L)[k]?=some y∧a'= { tmps:=((#[.func (.yield l) #[] #[],P0 c1,P0 c2,P0 b4,undef,undef,undef,undef,P0 b,fnV 73 #[P0 c3],undef,undef,undef,undef,undef,undef,undef,undef,undef,undef,undef,undef,undef,undef,undef,undef].setIfInBounds 10 (.int .i64 y.k)).setIfInBounds 11 (P0 y.p)).setIfInBounds 4 (.int .i64 y.k) |>.setIfInBounds 5 (P0 y.p),defers:= [] }) ?f1 ?ag ?bd ?dn ?st
 case it=>
   intro U hk hs
   have ho:=unhide HO
   have hx:=unhide HX
   have hD:=(unhide HD).step0 ((unhide HK).trans hk)
   have hks:=(unhide HK).size
   have hl:=(unhide HD).lts
   refine rising73_in _ _ ((unhide HC3).kept hk (by simp)) hD.blk hD.map ⟨A,hD⟩ ?_ ?_ ?_
   · intro e
     rcases List.mem_cons.1 e with e | e
     · have:=(unhide HC3).lt;omega
     · have:=hx _ e;have:=unhide HG3;omega
   · intro e
     rcases List.mem_cons.1 e with e | e
     · omega
     · exact ho.b e
   · intro e
     rcases List.mem_cons.1 e with e | e
     · omega
     · exact ho.mb e
 case i1=>
   rintro k A1 B1 Z ⟨g1,g2,g3⟩ hk hz
   refine⟨unhide HJ _ _ _ _ g1 hk (fun i hi=>⟨Nat.le_trans (unhide HK).size (hz i hi).1,(hz i hi).2⟩),g2.fresh hk (fun i hi hl=>by have:=(hz i hi).1;have:=(unhide HK).size;omega),g3.kept hk (fun e=> ?_)⟩
   have:=(hz _ e).1
   have:=(unhide HB4).lt
   omega
 case i2=>
   rintro cd k A1 B1 Z ⟨g1,⟨j,hj,g2⟩,g3⟩ hk hz
   exact⟨g1,⟨j,hj,unhide HJX _ _ _ _ g2 hk (fun i hi=>⟨Nat.le_trans (unhide HK).size (hz i hi).1,(hz i hi).2⟩)⟩,g3.fresh hk (fun i hi hl=>by have:=(hz i hi).1;have:=(unhide HK).size;omega)⟩
 case i0=>exact ⟨by rw [show cntT (tellM m) (rise L) 0=0 from rfl];exact unhide HJ _ _ _ _ (unhide H0) (unhide HK) (by simp),(unhide HK).mono (by simp),unhide HB4⟩
 case f1=>exact fun k a' A1 B1 h _=>h
 case ag=>
   rintro l2 k x W K hkN ⟨y,hy,rfl⟩ hI hsz hK
   simp only [List.zip_toArray,List.zip_cons_cons,List.zip_nil_right,List.foldl_toArray,List.foldl_cons,List.foldl_nil,List.setIfInBounds_toArray,List.set_cons_succ,List.set_cons_zero]
   have HKK:=hide (hK _ W (Kept.refl _ _) ⟨y,hy,rfl⟩)
   clear hK hI hy
   simp only [List.setIfInBounds_toArray,List.set_cons_succ,List.set_cons_zero] at HKK
   gi_wp2
   exact unhide HKK
 case bd=>
   rintro l2 k a' W hkN ⟨g1,g2,g3⟩ ⟨y,hy,rfl⟩ hsz
   have hks:=(unhide HK).size
   have hyL:y∈L:=rise_mem (List.mem_of_getElem? hy)
   have ho:=unhide HO
   have HYB:=hide (((unhide HD).lk y hyL).blk.kept g2 (ho.lk y hyL).1)
   have HN2:=hide ((unhide HCN).kept g2 (ho.cs cn (by simp)))
   have kc2:=fits_cell ((unhide HC2).kept g2 (ho.cs c2 (by simp))) 0 _ rfl
   have kb4:=fits_cell g3 0 _ rfl
   have HG2:=hide g2
   have HB9:=hide g3
   have HSZ:Hid (V.heap.size≤W.heap.size):=g2.size
   obtain⟨hm,hmd⟩:∃x,(holdsP y.s m).1=x:=⟨_,rfl⟩
   simp only [List.setIfInBounds_toArray,List.set_cons_succ,List.set_cons_zero]
   cases hh:(holdsP y.s m).2 with
   | false=>
     have HH:Hid (holdsP y.s m=(hm,false)):=by show _=_;rw [← hmd,← hh]
     have HCT:=hide (cntT_none (f:=tellM m) hy (by unfold tellM;rw [hh];rfl))
     have HG1:=hide g1
     clear g1 g2 g3 hy hyL ho hmd hh hks hsz
     gi_wp2_with (
       first
       |(refine CallsIn.mono (CallsIn.inRound l2 (callsIn_wide.2 (cl58 (unhide HYB) (unhide HN2)))) ?_;rw [show holdsP y.s m=(hm,false) from unhide HH];rintro e W5 ⟨rfl,q9⟩;replace q9:=q9.symm;subst q9)
       | fail)
     exact⟨Kept.refl _ _,by rw [unhide HCT];exact unhide HG1,unhide HG2,unhide HB9⟩
   | true=>
     have HH:Hid (holdsP y.s m=(hm,true)):=by show _=_;rw [← hmd,← hh]
     have hct:=cntT_some (f:=tellM m) hy (u:=(y.k,hm)) (by unfold tellM;rw [hh,hmd];rfl)
     have HCT:=hide hct.1
     have hjl:cntT (tellM m) (rise L) k<(heldL m L).length:=(List.getElem?_eq_some_iff.1 hct.2).1
     have HJL:=hide hjl
     have HYY:=hide (unhide HY _ #[.int .i64 y.k,.int .i64 hm] W hjl ⟨_,hct.2,rfl⟩ g1 g2.size)
     clear g1 g2 g3 hy hyL ho hmd hh hks hsz hct hjl
     gi_wp2_with (
       first
       |(refine CallsIn.mono (CallsIn.inRound l2 (callsIn_wide.2 (cl58 (unhide HYB) (unhide HN2)))) ?_;rw [show holdsP y.s m=(hm,true) from unhide HH];rintro e W5 ⟨rfl,q9⟩;replace q9:=q9.symm;subst q9;refine Stp.go ?_))
     constructor
     gi_wp2_with (
       first
       |(refine inYield (by rfl) 20 #[.tmp 21,.tmp 22] #[3,29] (by rfl) (by rfl) #[.int .i64 y.k,.int .i64 hm] (by simp;exact⟨rfl,rfl⟩) (unhide HYY) ?_;refine Stp.go ?_))
     constructor
     rintro e W8 K8 (⟨rfl,hI8⟩ | ⟨rfl,hX8⟩)
     · refine⟨_,rfl,?_⟩
       have HI8:=hide hI8
       have HK8:=hide K8
       clear hI8 K8 HYY
       gi_wp2_with fail
       refine⟨unhide HK8,by rw [unhide HCT];exact unhide HI8,(unhide HG2).trans (unhide HK8),(unhide HB9).kept (unhide HK8) (fun e=> ?_)⟩
       have:=unhide HX _ e
       have:=unhide HG4
       omega
     · refine⟨_,rfl,?_⟩
       have HX8:=hide hX8
       have HK8:=hide K8
       clear hX8 K8 HYY
       gi_wp2_with fail
       exact⟨unhide HK8,rfl,⟨_,unhide HJL,unhide HX8⟩,(unhide HG2).trans (unhide HK8)⟩
 case dn=>
   intro Wd kD hsz hI hD
   have HKD:=hide hI.2.1
   have HDD:=hide hD
   have HI9:Hid (J (heldL m L).length Wd):=by have h9:=hI.1;rw [cntT_all] at h9;exact h9
   have HS3:Hid (V.heap.size≤W3.heap.size):=(unhide HK).size
   clear kD hsz hI hD
   go_wp2_with fail
   refine(show LeavesInM Fence.wide 3 Try.prog Try.f89 _ _ [{ target:= .collected W3.heap.size,args:= #[] }] .returning Wd from ?_)
   refine⟨by simp,.inl ⟨_,_,rfl,run_takeDeferred (unhide HDD),?_⟩⟩
   refine⟨_,results_none rfl _ _ _,⟨_,rfl⟩,?_,.inl (unhide HJ _ _ _ _ (unhide HI9) (Kept.put1 (l:=W3.heap.size)) (by intro i hi;simp at hi;subst hi;exact⟨unhide HS3,noD_mark (unhide HDD)⟩))⟩
   exact(unhide HKD).fresh (Kept.put1 (l:=W3.heap.size)) (by intro i hi hl;simp at hi;have:=unhide HS3;omega)
 case st=>
   rintro cd k Wd hk kD hsz ⟨rfl,⟨j,hj,hX8⟩,hK9⟩ hD
   have HKD:=hide hK9
   have HDD:=hide hD
   have HI9:=hide hX8
   have HKK:=hide hj
   have HS3:Hid (V.heap.size≤W3.heap.size):=(unhide HK).size
   clear kD hsz hX8 hD hk hj hK9
   rw [wpIn_wide]
   go_wp2_with fail
   refine(show LeavesInM Fence.wide 3 Try.prog Try.f89 _ _ [{ target:= .collected W3.heap.size,args:= #[] }] .returning Wd from ?_)
   refine⟨by simp,.inl ⟨_,_,rfl,run_takeDeferred (unhide HDD),?_⟩⟩
   refine⟨_,results_none rfl _ _ _,⟨_,rfl⟩,?_,.inr ⟨j,unhide HKK,unhide HJX _ _ _ _ (unhide HI9) (Kept.put1 (l:=W3.heap.size)) (by intro i hi;simp at hi;subst hi;exact⟨unhide HS3,noD_mark (unhide HDD)⟩)⟩⟩
   exact(unhide HKD).fresh (Kept.put1 (l:=W3.heap.size)) (by intro i hi hl;simp at hi;have:=unhide HS3;omega)
end Go.Proofs.Ytbigongmlpoahaa.D
namespace Go.Proofs.Ytbigongmlpoahaa.D
set_option maxRecDepth 100000
set_option linter.unusedSimpArgs false
open Go.RowKit Go.Shelf
attribute [local go_sem] Oper.semAt_some
variable {w W V:World} {A b mb c1 c2:Nat} {L:List Lk} {v:Value} {y:Lk}
end Go.Proofs.Ytbigongmlpoahaa.D
