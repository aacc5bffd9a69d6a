import Derived.Test.YtbigongmlpoahaaUKc
import Derived.MapKept
import Derived.Test.YtbigongmlpoahaaUFo
import Derived.Test.YtbigongmlpoahaaUPa
namespace Go.Proofs.Ytbigongmlpoahaa.D
set_option maxRecDepth 100000
set_option linter.unusedSimpArgs false
open Go.RowKit
structure En where
 k:Int
 p:Nat
def ents (L:List En):List (Value×Value):=L.map fun l=>(.int .i64 l.k,P0 l.p)
def MapAt (W:World) (mb:Nat) (L:List En):Prop:=∃es clock,W.heap[mb]?=some (.map es clock)∧es.toList.map (fun e=>(e.key,e.val))=ents L∧MapKept.Stamped es clock
theorem MapAt.kept {W W':World} {mb:Nat} {L:List En} {X:List Nat} (h:MapAt W mb L) (hk:Kept X W W') (hX:mb∉X):MapAt W' mb L:=by
 obtain⟨es,c,h1,h2,hst⟩:=h
 exact⟨es,c,hk.heap h1 hX,h2,hst⟩
def placeOf (k:Int):List En→Nat→Option (Nat×En)
 | [],_=>none
 | l::L,i=>if k=l.k then some (i,l) else placeOf k L (i+1)
theorem placeOf_none {k:Int} :∀ {L:List En} {i:Nat},placeOf k L i=none→∀l∈L,l.k≠k:=by
 intro L
 induction L with
 | nil=>intro i h l hl;cases hl
 | cons x L ih=>
   intro i h l hl
   unfold placeOf at h
   split at h
   · cases h
   · rcases List.mem_cons.1 hl with rfl | hl
     · exact fun e=> ‹¬ _› e.symm
     · exact ih h l hl
theorem placeOf_no {k:Int} :∀ {L:List En} {i:Nat},(∀l∈L,l.k≠k)→placeOf k L i=none:=by
 intro L
 induction L with
 | nil=>intro i _;rfl
 | cons x L ih=>
   intro i h
   unfold placeOf
   rw [if_neg (fun e=>h x (List.mem_cons_self ..) e.symm)]
   exact ih fun l hl=>h l (List.mem_cons_of_mem _ hl)
theorem find_now (k:Int):∀(L:List En) (es:List MapEntry) (i:Nat),es.map (fun e=>(e.key,e.val))=ents L→Instr.findNow (.int .i64) (.int .i64 k) es i=some ((placeOf k L i).map fun x=>(x.1,P0 x.2.p)):=by
 intro L
 induction L with
 | nil=>intro es i h;cases es with
   | nil=>rfl
   | cons e es=>simp [ents] at h
 | cons l L ih=>
   intro es i h
   cases es with
   | nil=>simp [ents] at h
   | cons e es=>
     simp only [List.map_cons,ents,List.cons.injEq,Prod.mk.injEq] at h
     obtain⟨⟨h1,h2⟩,h3⟩:=h
     unfold Instr.findNow placeOf
     rw [h1]
     simp only [Instr.sameNow,if_true]
     by_cases hk:k=l.k
     · simp [hk,h2]
     · rw [if_neg hk]
       have:(k == l.k)=false:=by simpa using hk
       simp only [this]
       exact ih es (i+1) h3
def putB (w:World) (r:Nat) (o:Obj):World:= { w with heap:=w.heap.setIfInBounds r o }
theorem get_map {w:World} {r:Nat} {es:Array MapEntry} {c:Nat} (hb:w.heap[r]?=some (.map es c)):(getObj r).run Try.prog w= .ok (.map es c) w:=by simp [getObj,Sem.run,hb]
theorem set_map {w:World} {r:Nat} {es:Array MapEntry} {c:Nat} (o:Obj) (hb:w.heap[r]?=some (.map es c)):(setObj r o).run Try.prog w= .ok () (putB w r o):=by simp [setObj,Sem.run,hb,putB]
theorem map53:Try.prog.underlying 53=some (.map 3 88):=by kernel_rfl
theorem check3 (w:World) (em:Bool) (k:Int):(Instr.checkKey em 10000 3 (.int .i64 k)).run Try.prog w= .ok () w:=by cases em <;> kernel_rfl
theorem find3 (w:World) (k:Int) (L:List En) (es:List MapEntry) (h:es.map (fun e=>(e.key,e.val))=ents L):(Instr.findKey 3 (.int .i64 k) es).run Try.prog w= .ok ((placeOf k L 0).map fun x=>(x.1,P0 x.2.p)) w:=by
 unfold Instr.findKey
 simp [Sem.run_bind,run_underlying Try.underlying3,find_now k L es 0 h]
def lookV (k:Int) (L:List En):Value:=match placeOf k L 0 with
 | none=> .pointer none
 | some x=>P0 x.2.p
theorem zero88 (w:World):(zeroValue 88).run Try.prog w= .ok (.pointer none) w:=by kernel_rfl
theorem run_look (w:World) (mb:Nat) (L:List En) (k:Int) (h:MapAt w mb L):(Instr.lookup 53 (.map (some mb)) (.int .i64 k) true).run Try.prog w= .ok (.tuple #[lookV k L,.bool (placeOf k L 0).isSome]) w:=by
 obtain⟨es,c,h1,h2,hst⟩:=h
 unfold Instr.lookup lookV
 simp only [Sem.run_bind,run_underlying map53,Result.andThen_ok,get_map h1,Sem.run_pure,check3,find3 w k L _ h2]
 cases placeOf k L 0 with
 | none=>simp [zero88]
 | some x=>simp
theorem run_look1 (w:World) (mb:Nat) (L:List En) (k:Int) (h:MapAt w mb L):(Instr.lookup 53 (.map (some mb)) (.int .i64 k) false).run Try.prog w= .ok (lookV k L) w:=by
 obtain⟨es,c,h1,h2,hst⟩:=h
 unfold Instr.lookup lookV
 simp only [Sem.run_bind,run_underlying map53,Result.andThen_ok,get_map h1,Sem.run_pure,check3,find3 w k L _ h2]
 cases placeOf k L 0 with
 | none=>simp [zero88]
 | some x=>simp
theorem keptB {X:List Nat} {a w:World} (h:Kept X a w) {r:Nat} (o:Obj) (hr:r∈X):Kept X a (putB w r o):=by
 refine⟨h.os,h.tape,h.output,by simp [Ytbigongmlpoahaa.D.putB];exact h.size,fun i hi hx=> ?_⟩
 rw [← h.block i hi hx]
 simp only [Ytbigongmlpoahaa.D.putB]
 rw [Array.getElem?_setIfInBounds_ne (by intro e;subst e;exact hx hr)]
theorem putB_at {w:World} {r:Nat} {o o':Obj} (h:w.heap[r]?=some o):(putB w r o').heap[r]?=some o':=by
 have:=(Array.getElem?_eq_some_iff.1 h).1
 simp [putB,this]
theorem run_upd (w:World) (mb:Nat) (L:List En) (l:En) (h:MapAt w mb L) (hn:placeOf l.k L 0=none):∃w',(Instr.mapUpdate 53 (.map (some mb)) (.int .i64 l.k) (P0 l.p)).run Try.prog w= .ok () w'∧MapAt w' mb (L++ [l])∧Kept [mb] w w':=by
 obtain⟨es,c,h1,h2,hst⟩:=h
 refine⟨putB w mb (.map (es.push { key:= .int .i64 l.k,val:=P0 l.p,born:=c }) (c+1)),?_,⟨_,_,putB_at h1,?_,MapKept.stamped_push hst ?_⟩,keptB (Kept.refl _ _) _ (by simp)⟩
 · unfold Instr.mapUpdate
   simp only [Sem.run_bind,run_underlying map53,Result.andThen_ok,get_map h1,check3,find3 w l.k L _ h2,hn,Option.map_none,set_map _ h1]
 · simp [ents,h2]
 · intro x hx e
   have hm:(x.key,x.val)∈es.toList.map (fun e=>(e.key,e.val)):=List.mem_map.2 ⟨x,hx,rfl⟩
   rw [h2] at hm
   obtain⟨l',hl',e'⟩:=List.mem_map.1 hm
   have h9:=congrArg Prod.fst e'
   rw [e] at h9
   simp at h9
   exact placeOf_none hn l' hl' h9
theorem map_not_cells {W:World} {mb k:Nat} {L:List En} {cs:Array Value} {e:TypeId} {p:Nat×Nat} (h:MapAt W mb L) (hk:W.heap[k]?=some (.cells cs e p)):k≠mb:=by
 obtain⟨es,c,h1,_⟩:=h
 intro e
 subst e
 rw [h1] at hk
 cases hk
theorem MapAt.lt {W:World} {mb:Nat} {L:List En} (h:MapAt W mb L):mb<W.heap.size:=by
 obtain⟨es,c,h1,_⟩:=h
 exact(Array.getElem?_eq_some_iff.1 h1).1
end Go.Proofs.Ytbigongmlpoahaa.D
namespace Go.Proofs.Ytbigongmlpoahaa.D
set_option maxRecDepth 100000
set_option linter.unusedSimpArgs false
open Go.RowKit
structure Lk where
 k:Int
 p:Nat
 ln:Value
 s:Lo
 q:List Wi
def Lk.e (x:Lk):En:=⟨x.k,x.p⟩
def Lk.Ap (x y:Lk):Prop:=x.p≠y.p∧∀i,x.ln.ownBlock=some i→y.ln.ownBlock≠some i
theorem Lk.Ap.symm {x y:Lk} (h:x.Ap y):y.Ap x:=⟨Ne.symm h.1,fun i hi e=>h.2 i e hi⟩
structure Lc (A:Nat) (W:World) (x:Lk):Prop where
 blk:Blk W x.p 108 (x.s.C x.ln)
 row:Ws W x.ln x.q
 gd:Gd A x.s x.q
theorem Lc.sd {A:Nat} {W:World} {x:Lk} (h:Lc A W x) (hA:A≤900):Sd W x.p x.ln x.s x.q:=h.gd.sd hA h.blk h.row
theorem Lc.kept {A:Nat} {W W':World} {x:Lk} {X:List Nat} (h:Lc A W x) (hk:Kept X W W') (h1:x.p∉X) (h2:∀i,x.ln.ownBlock=some i→i∉X):Lc A W' x:=⟨h.blk.kept hk h1,h.row.kept hk h2,h.gd⟩
structure Dg (A:Nat) (W:World) (b mb:Nat) (L:List Lk):Prop where
 blk:Blk W b 55 [.map (some mb)]
 map:MapAt W mb (L.map Lk.e)
 lk:∀x∈L,Lc A W x
 may:∀x∈L,0≤x.k∧x.k<16
 nd:(L.map Lk.k).Nodup
 ap:L.Pairwise Lk.Ap
variable {A:Nat} {w W W':World} {b mb:Nat} {L:List Lk} {v:Value} {X:List Nat}
theorem Dg.step (h:Dg A W b mb L) (hk:Kept X W W') (h1:b∉X) (h2:mb∉X) (h3:∀x∈L,x.p∉X∧∀i,x.ln.ownBlock=some i→i∉X):Dg A W' b mb L:=
 ⟨h.blk.kept hk h1,h.map.kept hk h2,fun x hx=>(h.lk x hx).kept hk (h3 x hx).1 (h3 x hx).2,h.may,h.nd,h.ap⟩
theorem Dg.step0 (h:Dg A W b mb L) (hk:Kept [] W W'):Dg A W' b mb L:=h.step hk (by simp) (by simp) (fun _ _=>⟨by simp,fun _ _=>by simp⟩)
theorem Dg.cw (h:Dg A W b mb L):W.cell? ⟨b,0,none⟩=some (.map (some mb)):=fits_cell h.blk 0 _ rfl
theorem eqm53 (mb:Nat) (W:World):Sem.run Try.prog (binOp BinOp.eql 53 (.map (some mb)) (.map none)) W= .ok (.bool false) W:=by kernel_rfl
theorem none35 (h:Dg A w b mb L):Calls Try.prog 35 #[P0 b] w fun e w'=>e= .returned (.bool false)∧w'=w:=by
 have c0:=h.cw
 have hq:=eqm53 mb
 clear h
 go_enter Try.func35,Try.ntmps35
 go_wp2
 go_ret
 exact⟨rfl,rfl⟩
def isP (n:Int):Bool:=decide (0≤n)&&decide (n<16)
theorem isPage60 (n:Int) (w:World):Calls Try.prog 60 #[.int .i64 n] w fun e W=>e= .returned (.bool (isP n))∧W=w:=by
 by_cases h1:0≤n
 · have d1:decide (0≤n)=true:=by simpa using h1
   have d2:decide (n≥0)=true:=by simpa using h1
   have e1:isP n=decide (n<16):=by unfold isP;rw [d1];rfl
   rw [e1]
   go_enter Try.func60,Try.ntmps60
   go_wp2
   go_ret
   exact⟨rfl,rfl⟩
 · have d1:decide (0≤n)=false:=by simpa using h1
   have d2:decide (n≥0)=false:=by simpa using h1
   have e1:isP n=false:=by unfold isP;rw [d1];rfl
   rw [e1]
   go_enter Try.func60,Try.ntmps60
   go_wp2
   go_ret
   exact⟨rfl,rfl⟩
end Go.Proofs.Ytbigongmlpoahaa.D
namespace Go.Proofs.Ytbigongmlpoahaa.D
set_option maxRecDepth 100000
set_option linter.unusedSimpArgs false
open Go.RowKit
section
variable {ops:Array Oper} {rest:List Oper} {op o:Oper} {a:Act} {w:World} {K:Act→World→Prop} {Q:Exit→Act→World→Prop}
theorem wpMk53 (hgd:op.guard=none) (ho:op.op= .makeMap 53 none)
   (h:∀W mb,mb=w.heap.size→MapAt W mb []→Kept [] w W→wpList Try.prog ops Q rest (a.put op.dst (.map (some mb))) W):wpList Try.prog ops Q (op::rest) a w:=
 wpList_plain hgd fun _ hK=>by
   have hmk:Sem.run Try.prog (Instr.makeMap 53 none) w= .ok (.map (some w.heap.size)) (w.alloc (.map #[] 0)):=by kernel_rfl
   unfold Oper.wp execOp
   simp only [ho,Option.map_none,Sem.run_bind,hmk,Result.andThen_ok]
   exact hK _ _ (h _ _ rfl ⟨_,_,heap_alloc_new w _,rfl,MapKept.stamped_empty 0⟩ ((Kept.refl _ _).alloc _))
theorem o_look1 (x y:Operand) (ho:o.op= .lookup 53 x y false) (mb:Nat) (L:List En) (n:Int) (v:Value) (hv:lookV n L=v) (hM:MapAt w mb L) (hx:a.eval x= .map (some mb)) (hy:a.eval y= .int .i64 n) (h:K (a.put o.dst v) w):o.wp Try.prog a w K Q:=by
 subst hv
 unfold Oper.wp execOp
 simp only [ho,hx,hy,Sem.run_bind,run_look1 w mb L n hM,Result.andThen_ok]
 exact h
theorem o_look2 (x y:Operand) (ho:o.op= .lookup 53 x y true) (mb:Nat) (L:List En) (n:Int) (v:Value) (f:Bool) (hv:lookV n L=v) (hf:(placeOf n L 0).isSome=f) (hM:MapAt w mb L) (hx:a.eval x= .map (some mb)) (hy:a.eval y= .int .i64 n) (h:K (a.put o.dst (.tuple #[v,.bool f])) w):o.wp Try.prog a w K Q:=by
 subst hv
 subst hf
 unfold Oper.wp execOp
 simp only [ho,hx,hy,Sem.run_bind,run_look w mb L n hM,Result.andThen_ok]
 exact h
theorem wpLook1 (hw:Region.wanted op (yielded ops a.tmps)=true) (x y:Operand) (ho:op.op= .lookup 53 x y false) (mb:Nat) (L:List En) (n:Int) (v:Value) (hx:a.eval x= .map (some mb)) (hy:a.eval y= .int .i64 n) (hv:lookV n L=v) (hM:MapAt w mb L) (h:wpList Try.prog ops Q rest (a.put op.dst v) w):wpList Try.prog ops Q (op::rest) a w:=
 BigFrame.wpList_want hw fun _ hK=>o_look1 x y ho mb L n v hv hM hx hy (hK _ _ h)
theorem wpLook2 (hgd:op.guard=none) (x y:Operand) (ho:op.op= .lookup 53 x y true) (mb:Nat) (L:List En) (n:Int) (v:Value) (f:Bool) (hx:a.eval x= .map (some mb)) (hy:a.eval y= .int .i64 n) (hv:lookV n L=v) (hf:(placeOf n L 0).isSome=f) (hM:MapAt w mb L) (h:wpList Try.prog ops Q rest (a.put op.dst (.tuple #[v,.bool f])) w):wpList Try.prog ops Q (op::rest) a w:=
 wpList_plain hgd fun _ hK=>o_look2 x y ho mb L n v f hv hf hM hx hy (hK _ _ h)
theorem o_upd (m x y:Operand) (ho:o.op= .mapUpdate 53 m x y) (_:o.dst=none) (mb:Nat) (L:List En) (l:En) (hm:a.eval m= .map (some mb)) (hx:a.eval x= .int .i64 l.k) (hy:a.eval y=P0 l.p) (hM:MapAt w mb L) (hn:placeOf l.k L 0=none)
   (h:∀W,MapAt W mb (L++ [l])→Kept [mb] w W→K (a.put o.dst undef) W):o.wp Try.prog a w K Q:=by
 obtain⟨w',hr,h1,h2⟩:=run_upd w mb L l hM hn
 unfold Oper.wp execOp
 simp only [ho,hm,hx,hy,Sem.run_bind,hr,Result.andThen_ok,Sem.run_pure]
 exact h w' h1 h2
theorem wpUpd (hgd:op.guard=none) (hd:op.dst=none) (m x y:Operand) (ho:op.op= .mapUpdate 53 m x y) (mb:Nat) (L:List En) (l:En) (hm:a.eval m= .map (some mb)) (hx:a.eval x= .int .i64 l.k) (hy:a.eval y=P0 l.p) (hM:MapAt w mb L) (hn:placeOf l.k L 0=none)
   (h:∀W,MapAt W mb (L++ [l])→Kept [mb] w W→wpList Try.prog ops Q rest (a.put op.dst undef) W):wpList Try.prog ops Q (op::rest) a w:=
 wpList_plain hgd fun _ hK=>o_upd m x y ho hd mb L l hm hx hy hM hn (fun W h1 h2=>hK _ _ (h W h1 h2))
end
def lkOf (n:Int) (L:List Lk):Option Lk:=L.find? fun x=>decide (x.k=n)
theorem place_lk (n:Int):∀(L:List Lk) (i:Nat),(placeOf n (L.map Lk.e) i).map (fun x=>x.2.p)=(lkOf n L).map (fun x=>x.p):=by
 intro L
 induction L with
 | nil=>intro i;rfl
 | cons x L ih=>
   intro i
   unfold lkOf
   simp only [List.map_cons,placeOf,Lk.e,List.find?_cons]
   by_cases h:n=x.k
   · have h':decide (x.k=n)=true:=by simp [h]
     rw [if_pos h,h']
     rfl
   · have h':decide (x.k=n)=false:=by simp;exact fun e=>h e.symm
     rw [if_neg h,h']
     exact ih (i+1)
theorem look_lk (n:Int) (L:List Lk):lookV n (L.map Lk.e)=(match lkOf n L with | none=> .pointer none | some x=>P0 x.p)∧(placeOf n (L.map Lk.e) 0).isSome=(lkOf n L).isSome:=by
 have h:=place_lk n L 0
 unfold lookV
 cases h1:placeOf n (L.map Lk.e) 0 with
 | none=>
   rw [h1] at h
   cases h2:lkOf n L with
   | none=>exact ⟨rfl,rfl⟩
   | some x=>rw [h2] at h;cases h
 | some y=>
   rw [h1] at h
   cases h2:lkOf n L with
   | none=>rw [h2] at h;cases h
   | some x=>
     rw [h2] at h
     simp only [Option.map_some,Option.some.injEq] at h
     exact⟨by show P0 y.2.p=P0 x.p;rw [h],rfl⟩
theorem lkOf_some {n:Int} {L:List Lk} {x:Lk} (h:lkOf n L=some x):x∈L∧x.k=n:=⟨List.mem_of_find?_eq_some h,by simpa using List.find?_some h⟩
theorem lkOf_none {n:Int} {L:List Lk} (h:lkOf n L=none):n∉L.map Lk.k:=by
 intro hm
 obtain⟨x,hx,e⟩:=List.mem_map.1 hm
 have:=List.find?_eq_none.1 h x hx
 simp [e] at this
theorem place_none {n:Int} {L:List Lk} (h:lkOf n L=none):placeOf n (L.map Lk.e) 0=none:=by
 refine placeOf_no fun l hl=> ?_
 obtain⟨x,hx,rfl⟩:=List.mem_map.1 hl
 intro e
 exact lkOf_none h (List.mem_map.2 ⟨x,hx,e⟩)
def Lk.new (n:Int) (p:Nat):Lk:=⟨n,p,.slice none 0 0,lo0,[]⟩
theorem new_lc {W:World} {p:Nat} {n:Int} (h:Blk W p 108 (lo0.C (.slice none 0 0))):Lc 0 W (Lk.new n p):=⟨h,Rw.nil _,lo0_gd⟩
structure Nw (w W:World) (mb:Nat) (P:List Int) (L:List Lk):Prop where
 map:MapAt W mb (L.map Lk.e)
 lk:∀x∈L,Blk W x.p 108 (lo0.C (.slice none 0 0))∧x=Lk.new x.k x.p∧w.heap.size≤x.p
 may:∀n∈P,isP n=true
 keys:L.map Lk.k=P
 nd:P.Nodup
 ap:L.Pairwise fun x y=>x.p≠y.p
 mb0:w.heap.size≤mb
 k:Kept [] w W
variable {w W W' W2:World} {mb p:Nat} {P:List Int} {L:List Lk} {n:Int}
theorem Nw.step0 (h:Nw w W mb P L) (hk:Kept [] W W'):Nw w W' mb P L:=⟨h.map.kept hk (by simp),fun x hx=>⟨(h.lk x hx).1.kept hk (by simp),(h.lk x hx).2⟩,h.may,h.keys,h.nd,h.ap,h.mb0,h.k.trans hk⟩
theorem Nw.add (h:Nw w W mb P L) (hp:p=W.heap.size) (hB:Blk W' p 108 (lo0.C (.slice none 0 0))) (hk:Kept [] W W') (hM:MapAt W2 mb ((L.map Lk.e)++ [⟨n,p⟩])) (hk2:Kept [mb] W' W2) (hn:isP n=true) (hl:lkOf n L=none):Nw w W2 mb (P++ [n]) (L++ [Lk.new n p]):=by
 have hlt:∀x∈L,x.p<W.heap.size:=fun x hx=>(h.lk x hx).1.lt
 have hnm:∀ {q:Nat} {us:List Value},Blk W' q 108 us→q∉ [mb]:=fun {q us} hq e=>by
   have:=map_not_cells (h.map.kept hk (by simp)) hq
   simp at e
   exact this e
 refine⟨by simpa [Lk.e,Lk.new] using hM,fun x hx=> ?_,fun m hm=> ?_,by simp [h.keys,Lk.new],?_,?_,h.mb0,(h.k.trans hk).fresh hk2 (fun i hi hlt=>by simp at hi;have:=h.mb0;omega)⟩
 · rcases List.mem_append.1 hx with hx | hx
   · have h1:=(h.lk x hx).1.kept hk (by simp)
     exact⟨h1.kept hk2 (hnm h1),(h.lk x hx).2⟩
   · rw [List.mem_singleton] at hx
     subst hx
     exact⟨hB.kept hk2 (hnm hB),rfl,by show w.heap.size≤p;have:=h.k.size;omega⟩
 · rcases List.mem_append.1 hm with hm | hm
   · exact h.may m hm
   · rw [List.mem_singleton] at hm;rw [hm];exact hn
 · rw [List.nodup_append]
   refine⟨h.nd,by simp,fun a ha b hb e=> ?_⟩
   rw [List.mem_singleton] at hb
   subst hb
   subst e
   rw [← h.keys] at ha
   exact lkOf_none hl ha
 · rw [List.pairwise_append]
   refine⟨h.ap,List.pairwise_singleton _ _,fun x hx y hy=> ?_⟩
   rw [List.mem_singleton] at hy
   subst hy
   have:=hlt x hx
   show x.p≠p
   omega
theorem Nw.dg {b:Nat} (h:Nw w W mb P L) (hB:Blk W b 55 [.map (some mb)]):Dg 0 W b mb L:=by
 refine⟨hB,h.map,fun x hx=> ?_,fun x hx=> ?_,by rw [h.keys];exact h.nd,?_⟩
 · have h1:=h.lk x hx
   rw [h1.2.1]
   exact new_lc h1.1
 · have:=h.may x.k (by rw [← h.keys];exact List.mem_map_of_mem hx)
   unfold isP at this
   simpa using this
 · refine h.ap.imp_of_mem ?_
   intro x y hx hy hne
   refine⟨hne,fun i hi=> ?_⟩
   rw [(h.lk x hx).2.1] at hi
   cases hi
end Go.Proofs.Ytbigongmlpoahaa.D
namespace Go.Proofs.Ytbigongmlpoahaa.D
set_option maxHeartbeats 4000000
set_option maxRecDepth 100000
set_option linter.unusedSimpArgs false
open Go.RowKit
def okP (P:List Int):Bool:=P.all isP&&decide P.Nodup
def NewR (w:World) (P:List Int) (e:Ending) (W:World):Prop:=Kept [] w W∧
 ((okP P=true∧∃b mb L,e= .returned (.tuple #[P0 b,.int .i64 0])∧Dg 0 W b mb L∧L.map Lk.k=P∧(∀x∈L,x=Lk.new x.k x.p∧w.heap.size≤x.p)∧w.heap.size≤b∧w.heap.size≤mb)
  ∨(okP P=false∧e= .returned (.tuple #[.pointer none,.int .i64 2])))
theorem okP_bad {P:List Int} {j:Nat} {n:Int} (h:P[j]?=some n) (hn:isP n=false):okP P=false:=by
 have hm:n∈P:=List.mem_of_getElem? h
 unfold okP
 rw [show P.all isP=false from List.all_eq_false.2 ⟨n,hm,by rw [hn];decide⟩]
 rfl
theorem okP_twice {P:List Int} {j:Nat} {n:Int} (h:P[j]?=some n) (hn:n∈P.take j):okP P=false:=by
 unfold okP
 rw [show decide P.Nodup=false from by
   rw [decide_eq_false_iff_not]
   intro hd
   obtain⟨i,hi⟩:=List.getElem?_of_mem hn
   have h2:=(List.getElem?_eq_some_iff.1 h).1
   rw [List.getElem?_take] at hi
   split at hi
   · have h3:=(List.getElem?_inj (by omega:i<P.length) hd (j:=j)).1 (hi.trans h.symm)
     omega
   · cases hi]
 cases P.all isP <;> rfl
theorem okP_good {w W:World} {mb:Nat} {P:List Int} {L:List Lk} (h:Nw w W mb P L):okP P=true:=by
 unfold okP
 rw [List.all_eq_true.2 h.may,decide_eq_true h.nd]
 rfl
theorem new24 (v:Value) (P:List Int) (w:World) (h:Is w v P) (hl:P.length≤1000):Calls Try.prog 24 #[v] w (NewR w P):=by
 have HI:=hide h
 have hl2:(P.length:Int)≤1000:=by omega
 clear h
 go_enter Try.func24,Try.ntmps24
 go_wp2_with (first |(refine wpMk53 rfl rfl ?_;intro W1 mb e1 M1 K1;have HN:Hid (Nw w W1 mb [] []):=⟨M1,(fun x hx=>by cases hx),(fun n hn=>by cases hn),rfl,List.nodup_nil,List.Pairwise.nil,by omega,K1⟩;clear e1 M1 K1;refine Stp.go ?_))
 constructor
 go_wp2_with (first |(refine wpLen36 rfl (.tmp 8) rfl v P.length (inC P) rfl ((unhide HI).kept (unhide HN).k (fun _ _=>by simp)) ?_;refine Stp.go ?_))
 constructor
 go_wp2_with fail
 go_loopw [10] (fun x10 wr=>∃(j:Nat) (L:List Lk),j≤P.length∧x10= .int .i64 j∧Hid (Nw w wr mb (P.take j) L)) (fun x10 _=>P.length-(intOf x10).toNat)
 case atStart=>exact ⟨0,[],by omega,rfl,HN⟩
 case round=>
   clear HN
   obtain⟨j,L,hj,rfl,HN⟩:=hrel
   by_cases hk:j<P.length
   · have hd:decide ((j:Int)<(P.length:Int))=true:=by simp;omega
     obtain⟨n,hn⟩:∃n,P[j]?=some n:=⟨_,List.getElem?_eq_getElem hk⟩
     have HJ:=hide hn
     clear hn
     cases hp:isP n with
     | false=>
       have HP:=hide hp
       clear hp
       go_wp2_with (first |(refine wpIdxI rfl (.tmp 8) (.tmp 10) rfl v P j n rfl rfl ((unhide HI).kept (unhide HN).k (fun _ _=>by simp)) (unhide HJ) ?_;intro ad hc;refine Stp.go ?_))
       constructor
       go_wp2_with (first |(go_at_call 60;refine(isPage60 n _).mono ?_;rw [unhide HP];rintro e W9 ⟨rfl,q9⟩;replace q9:=q9.symm;subst q9;refine Stp.go ?_))
       constructor
       go_wp2_with fail
       go_ret2
       exact⟨(unhide HN).k,.inr ⟨okP_bad (unhide HJ) (unhide HP),rfl⟩⟩
     | true=>
       have HP:=hide hp
       clear hp
       obtain⟨lv,hlv⟩:∃x,lookV n (L.map Lk.e)=x:=⟨_,rfl⟩
       have HL:=hide hlv
       cases hq:lkOf n L with
       | some y=>
         obtain rfl:lv=P0 y.p:=by rw [← hlv,(look_lk n L).1,hq]
         have HT:Hid (okP P=false):=okP_twice (unhide HJ) (by rw [← (unhide HN).keys];have h9:=lkOf_some hq;exact List.mem_map.2 ⟨y,h9.1,h9.2⟩)
         clear hlv hq
         go_wp2_with (first |(refine wpIdxI rfl (.tmp 8) (.tmp 10) rfl v P j n rfl rfl ((unhide HI).kept (unhide HN).k (fun _ _=>by simp)) (unhide HJ) ?_;intro ad hc;refine Stp.go ?_))
         constructor
         go_wp2_with (first |(go_at_call 60;refine(isPage60 n _).mono ?_;rw [unhide HP];rintro e W9 ⟨rfl,q9⟩;replace q9:=q9.symm;subst q9;refine Stp.go ?_))
         constructor
         go_wp2_with (first |(refine wpLook1 (by rfl) (.tmp 18) (.tmp 19) rfl mb (L.map Lk.e) n _ rfl rfl (unhide HL) (unhide HN).map ?_;refine Stp.go ?_))
         constructor
         go_wp2_with fail
         go_ret2
         exact⟨(unhide HN).k,.inr ⟨unhide HT,rfl⟩⟩
       | none=>
         obtain rfl:lv= .pointer none:=by rw [← hlv,(look_lk n L).1,hq]
         have HLK:=hide hq
         clear hlv hq
         go_wp2_with (first |(refine wpIdxI rfl (.tmp 8) (.tmp 10) rfl v P j n rfl rfl ((unhide HI).kept (unhide HN).k (fun _ _=>by simp)) (unhide HJ) ?_;intro ad hc;refine Stp.go ?_))
         constructor
         go_wp2_with (first |(go_at_call 60;refine(isPage60 n _).mono ?_;rw [unhide HP];rintro e W9 ⟨rfl,q9⟩;replace q9:=q9.symm;subst q9;refine Stp.go ?_))
         constructor
         go_wp2_with (first |(refine wpLook1 (by rfl) (.tmp 18) (.tmp 19) rfl mb (L.map Lk.e) n _ rfl rfl (unhide HL) (unhide HN).map ?_;refine Stp.go ?_))
         constructor
         go_wp2_with (first |(go_at_call 61;refine(new10 _).mono ?_;rintro e W5 ⟨p,rfl,hp,hB,hK⟩;have HPE:=hide hp;have HB:=hide hB;have HK:=hide hK;have HM5:=hide ((unhide HN).map.kept hK (by simp));clear hp hB hK;refine Stp.go ?_))
         constructor
         go_wp2_with (first |(refine wpUpd rfl rfl (.tmp 23) (.tmp 24) (.tmp 25) rfl mb (L.map Lk.e) ⟨n,p⟩ rfl rfl rfl (unhide HM5) (place_none (unhide HLK)) ?_;intro W6 M6 K6;have HN6:=hide ((unhide HN).add (unhide HPE) (unhide HB) (unhide HK) M6 K6 (unhide HP) (unhide HLK));clear M6 K6 HM5;refine Stp.go ?_))
         constructor
         go_wp2_with fail
         go_roundw
         case rel=>exact ⟨j+1,L++ [Lk.new n p],by omega,by go_num,by rw [List.take_add_one,unhide HJ];exact HN6⟩
         case measure=>simp [intOf];omega
   · obtain rfl:j=P.length:=by omega
     have hd:decide ((P.length:Int)<(P.length:Int))=false:=by simp
     rw [List.take_length] at HN
     go_wp2_with (
       first
       | (refine wpBoxV rfl (.tmp 28) rfl [.map (some mb)] rfl ?_
          intro W2 b e2 B2 K2
          have HD:Hid (NewR w P (.returned (.tuple #[P0 b,.int .i64 0])) W2):=by
            have h2:=(unhide HN).step0 K2
            exact⟨h2.k,.inl ⟨okP_good h2,b,mb,L,rfl,h2.dg B2,h2.keys,fun x hx=>(h2.lk x hx).2,by have:=(unhide HN).k.size;omega,h2.mb0⟩⟩
          clear e2 B2 K2
          refine Stp.go ?_))
     constructor
     go_wp2_with fail
     go_ret2
     exact unhide HD
end Go.Proofs.Ytbigongmlpoahaa.D
namespace Go.Proofs.Ytbigongmlpoahaa.D
set_option maxRecDepth 100000
set_option linter.unusedSimpArgs false
open Go.RowKit
@[reducible] def fnV (f:Nat) (cs:Array Value):Value:= .func (.func f) #[] cs
@[reducible] def Ent (f:Nat):Prop:=∀(vs:Array Value) (w:World),(callFunc f vs).run Try.prog w= .ok (.enter f vs) w
@[reducible] def poC1 (n:Int) (o:Od):List Value:= .int .i64 n::o.C
def poC (n:Int) (O:List Od):List Value:=O.flatMap (poC1 n)
theorem poC_app (n:Int) (A B:List Od):poC n (A++B)=poC n A++poC n B:=by simp [poC]
theorem poC_one (n:Int) (O:List Od):∀v∈poC n O,v.oneCell'=true:=by
 intro v hv
 unfold poC at hv
 obtain⟨o,_,hv⟩:=List.mem_flatMap.1 hv
 rcases List.mem_cons.1 hv with rfl | hv
 · rfl
 · exact odC_one [o] v (by simpa [odC] using hv)
theorem poC_sing (n:Int) (o:Od):poC n [o]=poC1 n o:=by simp [poC]
theorem el57:El 57 76 7 56:=⟨by kernel_rfl,⟨aggV (poC1 0 ⟨0,0,0,0,0,0⟩),by kernel_rfl,rfl⟩,by omega⟩
theorem build76 (n:Int) (x:Od) (w:World):(Instr.build 76 #[(0,.int .i64 n),(1,aggV x.C)]).run Try.prog w= .ok (aggV (poC1 n x)) w:=by kernel_rfl
theorem bs57 (w:World) (n:Int) (x:Od):(Instr.buildSlice 57 1 #[(0,aggV (poC1 n x))]).run Try.prog w= .ok (.slice (some ⟨w.heap.size,0,none⟩) 1 1) (w.alloc (.cells (poC1 n x).toArray 76)):=by kernel_rfl
section
variable {ops:Array Oper} {rest:List Oper} {op o:Oper} {a:Act} {w:World} {K:Act→World→Prop} {Q:Exit→Act→World→Prop}
theorem wpBs57 (hgd:op.guard=none) (y:Operand) (ho:op.op= .buildSlice 57 1 #[(0,y)]) (n:Int) (x:Od) (hy:a.eval y=aggV (poC1 n x)) (h:∀W g,g=w.heap.size→Blk W g 76 (poC1 n x)→Kept [] w W→wpList Try.prog ops Q rest (a.put op.dst (.slice (some ⟨g,0,none⟩) 1 1)) W):wpList Try.prog ops Q (op::rest) a w:=
 wpList_plain hgd fun _ hK=>by
   unfold Oper.wp execOp
   simp only [ho,List.map_toArray,List.map_cons,List.map_nil,hy,Sem.run_bind,bs57,Result.andThen_ok]
   exact hK _ _ (h _ _ rfl (Blk.new _ _ _) ((Kept.refl _ _).alloc _))
end
def Lk.to (x:Lk) (ln:Value) (r:Lo×List Wi×List Od):Lk:=⟨x.k,x.p,ln,r.1,r.2.1⟩
def setLk (n:Int) (ln:Value) (r:Lo×List Wi×List Od) (L:List Lk):List Lk:=L.map fun y=>if y.k=n then y.to ln r else y
theorem setLk_e (n:Int) (ln:Value) (r:Lo×List Wi×List Od) (L:List Lk):(setLk n ln r L).map Lk.e=L.map Lk.e:=by
 unfold setLk
 rw [List.map_map]
 refine List.map_congr_left fun y _=> ?_
 simp only [Function.comp]
 split <;> rfl
theorem setLk_k (n:Int) (ln:Value) (r:Lo×List Wi×List Od) (L:List Lk):(setLk n ln r L).map Lk.k=L.map Lk.k:=by
 unfold setLk
 rw [List.map_map]
 refine List.map_congr_left fun y _=> ?_
 simp only [Function.comp]
 split <;> rfl
theorem nodup_uniq:∀ {L:List Lk} {x y:Lk},(L.map Lk.k).Nodup→x∈L→y∈L→x.k=y.k→x=y
 | [],_,_,_,h,_,_=>by cases h
 | z::L,x,y,hd,hx,hy,e=>by
   rw [List.map_cons,List.nodup_cons] at hd
   rcases List.mem_cons.1 hx with e1 | h1
   · rcases List.mem_cons.1 hy with e2 | h2
     · rw [e1,e2]
     · exact absurd (List.mem_map.2 ⟨y,h2,by rw [← e,e1]⟩) hd.1
   · rcases List.mem_cons.1 hy with e2 | h2
     · exact absurd (List.mem_map.2 ⟨x,h1,by rw [e,e2]⟩) hd.1
     · exact nodup_uniq hd.2 h1 h2 e
variable {A:Nat} {w W W':World} {b mb:Nat} {L:List Lk} {v ln:Value} {n:Int}
theorem Dg.apart (h:Dg A W b mb L) {x y:Lk} (hx:x∈L) (hy:y∈L) (hne:x.k≠y.k):x.Ap y:=by
 have hp:=h.ap
 have key:∀(L:List Lk),L.Pairwise Lk.Ap→x∈L→y∈L→x.Ap y:=by
   intro L
   induction L with
   | nil=>intro _ h _;cases h
   | cons z L ih=>
     intro hp hx hy
     obtain⟨h1,h2⟩:=List.pairwise_cons.1 hp
     rcases List.mem_cons.1 hx with e1 | hx
     · rcases List.mem_cons.1 hy with e2 | hy
       · rw [e1,e2] at hne;exact absurd rfl hne
       · rw [e1];exact h1 y hy
     · rcases List.mem_cons.1 hy with e2 | hy
       · rw [e2];exact(h1 x hx).symm
       · exact ih h2 hx hy
 exact key L hp hx hy
theorem Dg.call {x:Lk} {r:Lo×List Wi×List Od} (h:Dg A w b mb L) (hx:x∈L) (hB:Blk W x.p 108 (r.1.C ln)) (hW:Ws W ln r.2.1) (hk:Kept (x.p::spare x.ln) w W) (hg:Grw w x.ln ln) (hgd:Gd (A+1) r.1 r.2.1):Dg (A+1) W b mb (setLk x.k ln r L):=by
 have own:∀k,x.ln.ownBlock=some k→∃cs,w.heap[k]?=some (.cells cs 38 (0,0)):=(h.lk x hx).row.block
 have nr:∀ {k T:Nat} {us:List Value},Blk w k T us→T≠38→x.ln.ownBlock≠some k:=fun {k T us} hB2 hT e=>by
   obtain⟨cs,hc⟩:=own k e
   unfold Blk at hB2
   rw [hB2] at hc
   injection hc with hc
   injection hc with _ hc
   exact hT hc
 have hbx:b≠x.p:=fun e=>by
   have h1:=h.blk
   have h2:=(h.lk x hx).blk
   unfold Blk at h1 h2
   rw [e,h2] at h1
   injection h1 with h1
   injection h1 with _ h1
   exact absurd h1 (by decide)
 have hb:b∉x.p::spare x.ln:=fun e=>by
   rcases List.mem_cons.1 e with e | e
   · exact hbx e
   · exact nr h.blk (by decide) (spare_own e)
 have hm:mb∉x.p::spare x.ln:=fun e=>by
   rcases List.mem_cons.1 e with e | e
   · exact map_not_cells h.map (h.lk x hx).blk e.symm
   · obtain⟨cs,hc⟩:=own mb (spare_own e)
     exact map_not_cells h.map hc rfl
 have oth:∀y∈L,y.k≠x.k→y.p∉x.p::spare x.ln∧∀i,y.ln.ownBlock=some i→i∉x.p::spare x.ln:=by
   intro y hy hne
   have ha:=h.apart hy hx hne
   refine⟨fun e=> ?_,fun i hi e=> ?_⟩
   · rcases List.mem_cons.1 e with e | e
     · exact ha.1 e
     · exact nr (h.lk y hy).blk (by decide) (spare_own e)
   · rcases List.mem_cons.1 e with e | e
     · obtain⟨cs,hc⟩:=(h.lk y hy).row.block i hi
       have h2:=(h.lk x hx).blk
       unfold Blk at h2
       rw [e,h2] at hc
       injection hc with hc
       injection hc with _ hc
       exact absurd hc (by decide)
     · exact ha.2 i hi (spare_own e)
 have hlt:∀y∈L,∀k,y.ln.ownBlock=some k→k<w.heap.size:=fun y hy k hk2=>(h.lk y hy).row.lt hk2
 refine⟨h.blk.kept hk hb,by rw [setLk_e];exact h.map.kept hk hm,fun y hy=> ?_,fun y hy=> ?_,by rw [setLk_k];exact h.nd,?_⟩
 · unfold setLk at hy
   obtain⟨z,hz,rfl⟩:=List.mem_map.1 hy
   split
   · rename_i e
     obtain rfl:z=x:=nodup_uniq h.nd hz hx e
     exact⟨hB,hW,hgd⟩
   · rename_i e
     have h1:=(h.lk z hz).kept hk (oth z hz e).1 (oth z hz e).2
     exact⟨h1.blk,h1.row,h1.gd.mono (by omega)⟩
 · unfold setLk at hy
   obtain⟨z,hz,rfl⟩:=List.mem_map.1 hy
   have h1:=h.may z hz
   split <;> exact h1
 · unfold setLk
   rw [List.pairwise_map]
   refine h.ap.imp_of_mem ?_
   intro y z hy hz hyz
   by_cases e1:y.k=x.k
   · obtain rfl:y=x:=nodup_uniq h.nd hy hx e1
     by_cases e2:z.k=y.k
     · obtain rfl:z=y:=nodup_uniq h.nd hz hx e2
       exact absurd rfl hyz.1
     · rw [if_pos rfl,if_neg e2]
       refine⟨hyz.1,fun i hi e=> ?_⟩
       rcases hg.own i hi with h2 | h2
       · exact hyz.2 i h2 e
       · have:=hlt z hz i e;omega
   · by_cases e2:z.k=x.k
     · obtain rfl:z=x:=nodup_uniq h.nd hz hx e2
       rw [if_neg e1,if_pos rfl]
       refine⟨hyz.1,fun i hi e=> ?_⟩
       rcases hg.own i e with h2 | h2
       · exact hyz.2 i hi h2
       · have:=hlt y hy i hi;omega
     · rw [if_neg e1,if_neg e2]
       exact hyz
end Go.Proofs.Ytbigongmlpoahaa.D
