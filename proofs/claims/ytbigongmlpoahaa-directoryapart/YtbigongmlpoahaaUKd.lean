import Derived.Test.YtbigongmlpoahaaUKc
namespace Go.Proofs.Ytbigongmlpoahaa
set_option maxRecDepth 100000
set_option linter.unusedSimpArgs false
open Go.RowKit
theorem boa (w:World) (k t c m:Int):(Instr.build 74 #[(0,.int .i64 k),(1,.int .i64 t),(2,.int .i64 c),(3,.int .i64 m)]).run Try.prog w= .ok (aggV (Od.C ⟨k,t,c,m,0,0⟩)) w:=by kernel_rfl
theorem bob (w:World) (k t c n:Int):(Instr.build 74 #[(0,.int .i64 k),(1,.int .i64 t),(2,.int .i64 c),(4,.int .i64 n)]).run Try.prog w= .ok (aggV (Od.C ⟨k,t,c,0,n,0⟩)) w:=by kernel_rfl
theorem boc (w:World) (k t c:Int):(Instr.build 74 #[(0,.int .i64 k),(1,.int .i64 t),(2,.int .i64 c)]).run Try.prog w= .ok (aggV (Od.C ⟨k,t,c,0,0,0⟩)) w:=by kernel_rfl
theorem bod (w:World) (k t p:Int):(Instr.build 74 #[(0,.int .i64 k),(1,.int .i64 t),(5,.int .i64 p)]).run Try.prog w= .ok (aggV (Od.C ⟨k,t,0,0,0,p⟩)) w:=by kernel_rfl
theorem bw (w:World) (n k:Int):(Instr.build 38 #[(0,.int .i64 n),(1,.int .i64 k)]).run Try.prog w= .ok (aggV [.int .i64 n,.int .i64 k]) w:=by kernel_rfl
theorem bs28 (w:World) (x:Od):(Instr.buildSlice 81 1 #[(0,aggV x.C)]).run Try.prog w= .ok (.slice (some ⟨w.heap.size,0,none⟩) 1 1) (w.alloc (.cells x.C.toArray 74)):=by kernel_rfl
theorem bs38 (w:World) (x:Wi):(Instr.buildSlice 35 1 #[(0,aggV x.C)]).run Try.prog w= .ok (.slice (some ⟨w.heap.size,0,none⟩) 1 1) (w.alloc (.cells x.C.toArray 38)):=by kernel_rfl
theorem bs36 (w:World) (x:Int):(Instr.buildSlice 22 1 #[(0,.int .i64 x)]).run Try.prog w= .ok (.slice (some ⟨w.heap.size,0,none⟩) 1 1) (w.alloc (.cells [Value.int .i64 x].toArray 3)):=by kernel_rfl
section
variable {o:Oper} {a:Act} {w w0:World} {K:Act→World→Prop} {Q:Exit→Act→World→Prop} {X:List Nat} {bs:List (Nat×Nat×List Value)}
theorem o_boa (x0 x1 x2 x3:Operand) (ho:o.op= .build 74 #[(0,x0),(1,x1),(2,x2),(3,x3)]) (k t c m:Int) (h0:a.eval x0= .int .i64 k) (h1:a.eval x1= .int .i64 t) (h2:a.eval x2= .int .i64 c) (h3:a.eval x3= .int .i64 m) (h:K (a.put o.dst (aggV (Od.C ⟨k,t,c,m,0,0⟩))) w):o.wp Try.prog a w K Q:=by
 unfold Oper.wp execOp
 simp only [ho,List.map_toArray,List.map_cons,List.map_nil,h0,h1,h2,h3,Sem.run_bind,boa,Result.andThen_ok]
 exact h
theorem o_bob (x0 x1 x2 x4:Operand) (ho:o.op= .build 74 #[(0,x0),(1,x1),(2,x2),(4,x4)]) (k t c n:Int) (h0:a.eval x0= .int .i64 k) (h1:a.eval x1= .int .i64 t) (h2:a.eval x2= .int .i64 c) (h4:a.eval x4= .int .i64 n) (h:K (a.put o.dst (aggV (Od.C ⟨k,t,c,0,n,0⟩))) w):o.wp Try.prog a w K Q:=by
 unfold Oper.wp execOp
 simp only [ho,List.map_toArray,List.map_cons,List.map_nil,h0,h1,h2,h4,Sem.run_bind,bob,Result.andThen_ok]
 exact h
theorem o_boc (x0 x1 x2:Operand) (ho:o.op= .build 74 #[(0,x0),(1,x1),(2,x2)]) (k t c:Int) (h0:a.eval x0= .int .i64 k) (h1:a.eval x1= .int .i64 t) (h2:a.eval x2= .int .i64 c) (h:K (a.put o.dst (aggV (Od.C ⟨k,t,c,0,0,0⟩))) w):o.wp Try.prog a w K Q:=by
 unfold Oper.wp execOp
 simp only [ho,List.map_toArray,List.map_cons,List.map_nil,h0,h1,h2,Sem.run_bind,boc,Result.andThen_ok]
 exact h
theorem o_bs28 (y:Operand) (ho:o.op= .buildSlice 81 1 #[(0,y)]) (x:Od) (hy:a.eval y=aggV x.C) (h:∀W g,g=w.heap.size→Blk W g 74 (x.C)→Kept [] w W→K (a.put o.dst (.slice (some ⟨g,0,none⟩) 1 1)) W):o.wp Try.prog a w K Q:=by
 unfold Oper.wp execOp
 simp only [ho,List.map_toArray,List.map_cons,List.map_nil,hy,Sem.run_bind,bs28,Result.andThen_ok]
 exact h _ _ rfl (Blk.new _ _ _) ((Kept.refl _ _).alloc _)
theorem o_bs38 (y:Operand) (ho:o.op= .buildSlice 35 1 #[(0,y)]) (x:Wi) (hy:a.eval y=aggV x.C) (h:∀W g,g=w.heap.size→Blk W g 38 (x.C)→Kept [] w W→K (a.put o.dst (.slice (some ⟨g,0,none⟩) 1 1)) W):o.wp Try.prog a w K Q:=by
 unfold Oper.wp execOp
 simp only [ho,List.map_toArray,List.map_cons,List.map_nil,hy,Sem.run_bind,bs38,Result.andThen_ok]
 exact h _ _ rfl (Blk.new _ _ _) ((Kept.refl _ _).alloc _)
theorem o_bs36 (y:Operand) (ho:o.op= .buildSlice 22 1 #[(0,y)]) (x:Int) (hy:a.eval y= .int .i64 x) (h:∀W g,g=w.heap.size→Blk W g 3 ([Value.int .i64 x])→Kept [] w W→K (a.put o.dst (.slice (some ⟨g,0,none⟩) 1 1)) W):o.wp Try.prog a w K Q:=by
 unfold Oper.wp execOp
 simp only [ho,List.map_toArray,List.map_cons,List.map_nil,hy,Sem.run_bind,bs36,Result.andThen_ok]
 exact h _ _ rfl (Blk.new _ _ _) ((Kept.refl _ _).alloc _)
theorem o_st1 {T:Nat} (hs:(Try.prog.info? T).map (·.size)=some 1) (x y:Operand) (ho:o.op= .store T x y) (hd:o.dst=none) (b off i:Nat) (v:Value) (h1:One v) (hx:a.eval x= .pointer (some ⟨b,off,none⟩)) (hy:a.eval y=v) (hM:Mm X w0 w bs) {TT:Nat} {us us':List Value} (hi:bs[i]?=some (b,TT,us)) (hl:off<us.length) (he:us.set off v=us')
   (h:∀W,Mm X w0 W (bs.set i (b,TT,us'))→K a W):o.wp Try.prog a w K Q:=by
 subst he
 have hst:=storeVar1 hs (hM.at i _ hi) hl v h1.1 h1.2
 unfold Oper.wp execOp
 simp only [ho,hx,hy,Instr.storeAt,Instr.sureAddr,Sem.run_bind,Sem.run_pure,Result.andThen_ok,hst]
 show K (a.put o.dst undef) _
 rw [hd]
 exact h _ (hM.mut i hi ((Kept.refl _ _).setCell (by simp) v) ((hM.at i _ hi).set v))
theorem o_stN {T n:Nat} (hT:Row T n) (x y:Operand) (ho:o.op= .store T x y) (hd:o.dst=none) (b off i:Nat) (vs:List Value) (hx:a.eval x= .pointer (some ⟨b,off,none⟩)) (hy:a.eval y=aggV vs) (hl:vs.length=n) (h1:∀v∈vs,v.oneCell'=true) (hM:Mm X w0 w bs) {TT:Nat} {us us':List Value} (hi:bs[i]?=some (b,TT,us)) (hu:off+n≤us.length) (he:∀W,Blk W b TT us→Blk (W.setCells b off vs) b TT us')
   (h:∀W,Mm X w0 W (bs.set i (b,TT,us'))→K a W):o.wp Try.prog a w K Q:=by
 refine wp_storeN hT x y ho hd b off vs hx hy hl h1 ((hM.at i _ hi).there hu) ?_
 exact h _ (hM.mut i hi ((Kept.refl _ _).setCells _ _ (by simp)) (he _ (hM.at i _ hi)))
end
section
variable {ops:Array Oper} {rest:List Oper} {op:Oper} {a:Act} {w w0:World} {Q:Exit→Act→World→Prop} {X:List Nat} {bs:List (Nat×Nat×List Value)}
theorem wpSt1 {T:Nat} (hs:(Try.prog.info? T).map (·.size)=some 1) (hgd:op.guard=none) (x y:Operand) (ho:op.op= .store T x y) (hd:op.dst=none) (b off i:Nat) (v:Value) (h1:One v) (hx:a.eval x= .pointer (some ⟨b,off,none⟩)) (hy:a.eval y=v) (hM:Mm X w0 w bs) {TT:Nat} {us us':List Value} (hi:bs[i]?=some (b,TT,us)) (hl:off<us.length) (he:us.set off v=us')
   (h:∀W,Mm X w0 W (bs.set i (b,TT,us'))→wpList Try.prog ops Q rest a W):wpList Try.prog ops Q (op::rest) a w:=
 wpList_plain hgd fun _ hK=>o_st1 hs x y ho hd b off i v h1 hx hy hM hi hl he (fun W hW=>hK _ _ (h W hW))
theorem wpStN {T n:Nat} (hT:Row T n) (hgd:op.guard=none) (x y:Operand) (ho:op.op= .store T x y) (hd:op.dst=none) (b off i:Nat) (vs:List Value) (hx:a.eval x= .pointer (some ⟨b,off,none⟩)) (hy:a.eval y=aggV vs) (hl:vs.length=n) (h1:∀v∈vs,v.oneCell'=true) (hM:Mm X w0 w bs) {TT:Nat} {us us':List Value} (hi:bs[i]?=some (b,TT,us)) (hu:off+n≤us.length) (he:∀W,Blk W b TT us→Blk (W.setCells b off vs) b TT us')
   (h:∀W,Mm X w0 W (bs.set i (b,TT,us'))→wpList Try.prog ops Q rest a W):wpList Try.prog ops Q (op::rest) a w:=
 wpList_plain hgd fun _ hK=>o_stN hT x y ho hd b off i vs hx hy hl h1 hM hi hu he (fun W hW=>hK _ _ (h W hW))
theorem wpBs28 (hgd:op.guard=none) (y:Operand) (ho:op.op= .buildSlice 81 1 #[(0,y)]) (x:Od) (hy:a.eval y=aggV x.C) (h:∀W g,g=w.heap.size→Blk W g 74 (x.C)→Kept [] w W→wpList Try.prog ops Q rest (a.put op.dst (.slice (some ⟨g,0,none⟩) 1 1)) W):wpList Try.prog ops Q (op::rest) a w:=
 wpList_plain hgd fun _ hK=>o_bs28 y ho x hy (fun W g h1 h2 h3=>hK _ _ (h W g h1 h2 h3))
theorem wpBs36 (hgd:op.guard=none) (y:Operand) (ho:op.op= .buildSlice 22 1 #[(0,y)]) (x:Int) (hy:a.eval y= .int .i64 x) (h:∀W g,g=w.heap.size→Blk W g 3 ([Value.int .i64 x])→Kept [] w W→wpList Try.prog ops Q rest (a.put op.dst (.slice (some ⟨g,0,none⟩) 1 1)) W):wpList Try.prog ops Q (op::rest) a w:=
 wpList_plain hgd fun _ hK=>o_bs36 y ho x hy (fun W g h1 h2 h3=>hK _ _ (h W g h1 h2 h3))
end
@[reducible] def SD1 (X:List Nat) (w:World) (mk:Bool→List (Nat×Nat×List Value)) (k:Nat) (d:Nat→Bool) (_:Nat→Value) (W:World):Prop:=Mm X w W (mk (d k))
theorem SD1.loc {X:List Nat} {w:World} {mk:Bool→List (Nat×Nat×List Value)} {k:Nat} :∀d d' vs vs' W,(∀i∈ [k],d i=d' i∧vs i=vs' i)→SD1 X w mk k d vs W→SD1 X w mk k d' vs' W:=by
 intro d d' vs vs' W H h
 have e0:=(H k (by simp)).1
 unfold SD1 at h⊢
 rw [← e0]
 exact h
theorem SD1.no {X:List Nat} {w:World} {mk:Bool→List (Nat×Nat×List Value)} {k:Nat} {d:Nat→Bool} {vs:Nat→Value} {W:World} (h:SD1 X w mk k d vs W) (hd:d k=false):Mm X w W (mk false):=by rw [← hd];exact h
theorem SD1.yes {X:List Nat} {w:World} {mk:Bool→List (Nat×Nat×List Value)} {k:Nat} {d:Nat→Bool} {vs:Nat→Value} {W:World} (h:SD1 X w mk k d vs W) (hd:d k=true):Mm X w W (mk true):=by rw [← hd];exact h
@[reducible] def SD2 (X:List Nat) (w:World) (mk:Bool→Bool→List (Nat×Nat×List Value)) (k k2:Nat) (d:Nat→Bool) (_:Nat→Value) (W:World):Prop:=Mm X w W (mk (d k) (d k2))
theorem SD2.loc {X:List Nat} {w:World} {mk:Bool→Bool→List (Nat×Nat×List Value)} {k k2:Nat} :∀d d' vs vs' W,(∀i∈ [k,k2],d i=d' i∧vs i=vs' i)→SD2 X w mk k k2 d vs W→SD2 X w mk k k2 d' vs' W:=by
 intro d d' vs vs' W H h
 have e0:=(H k (by simp)).1
 have e1:=(H k2 (by simp)).1
 unfold SD2 at h⊢
 rw [← e0,← e1]
 exact h
theorem SD2.no {X:List Nat} {w:World} {mk:Bool→Bool→List (Nat×Nat×List Value)} {k k2:Nat} {d:Nat→Bool} {vs:Nat→Value} {W:World} (h:SD2 X w mk k k2 d vs W) (hd:d k=false):Mm X w W (mk false (d k2)):=by rw [← hd];exact h
theorem SD2.no2 {X:List Nat} {w:World} {mk:Bool→Bool→List (Nat×Nat×List Value)} {k k2:Nat} {d:Nat→Bool} {vs:Nat→Value} {W:World} (h:SD2 X w mk k k2 d vs W) (hd:d k2=false):Mm X w W (mk (d k) false):=by rw [← hd];exact h
theorem SD2.yes {X:List Nat} {w:World} {mk:Bool→Bool→List (Nat×Nat×List Value)} {k k2:Nat} {d:Nat→Bool} {vs:Nat→Value} {W:World} (h:SD2 X w mk k k2 d vs W) (hd:d k=true) (hd2:d k2=true):Mm X w W (mk true true):=by have h9:=h;unfold SD2 at h9;rw [hd,hd2] at h9;exact h9
@[reducible] def SN (X:List Nat) (w:World) (bs:List (Nat×Nat×List Value)) (T:Nat) (cs:List Value) (k k2:Nat) (d:Nat→Bool) (vs:Nat→Value) (W:World):Prop:=
 (d k=false→Mm X w W bs)∧(d k=true→∃g,vs k= .slice (some ⟨g,0,none⟩) 1 1∧w.heap.size≤g∧Mm X w W (bs++ [(g,T,cs)]))∧(d k2=true→vs k2=vs k)
theorem SN.loc {X:List Nat} {w:World} {bs:List (Nat×Nat×List Value)} {T:Nat} {cs:List Value} {k k2:Nat} :∀d d' vs vs' W,(∀i∈ [k,k2],d i=d' i∧vs i=vs' i)→SN X w bs T cs k k2 d vs W→SN X w bs T cs k k2 d' vs' W:=by
 intro d d' vs vs' W H h
 obtain⟨e0,e1⟩:=H k (by simp)
 obtain⟨e2,e3⟩:=H k2 (by simp)
 unfold SN at h⊢
 rw [← e0,← e1,← e2,← e3]
 exact h
theorem SN.kept {X:List Nat} {w W:World} {bs:List (Nat×Nat×List Value)} {T:Nat} {cs:List Value} {k k2:Nat} {d:Nat→Bool} {vs:Nat→Value} (h:SN X w bs T cs k k2 d vs W):Kept X w W:=by
 cases hd:d k with
 | false=>exact (h.1 hd).kept
 | true=>obtain ⟨g,_,_,hM⟩:=h.2.1 hd;exact hM.kept
theorem SN.at {X:List Nat} {w W:World} {bs:List (Nat×Nat×List Value)} {T:Nat} {cs:List Value} {k k2:Nat} {d:Nat→Bool} {vs:Nat→Value} (h:SN X w bs T cs k k2 d vs W) (i:Nat) (x:Nat×Nat×List Value) (hx:bs[i]?=some x):Blk W x.1 x.2.1 x.2.2:=by
 cases hd:d k with
 | false=>exact (h.1 hd).at i x hx
 | true=>
   obtain⟨g,_,_,hM⟩:=h.2.1 hd
   exact hM.at i x (by rw [List.getElem?_append_left (List.getElem?_eq_some_iff.1 hx).1];exact hx)
theorem SN.make {X:List Nat} {w W W':World} {bs:List (Nat×Nat×List Value)} {T:Nat} {cs:List Value} {k k2:Nat} {d:Nat→Bool} {vs:Nat→Value} {g:Nat} (h:SN X w bs T cs k k2 d vs W) (hk:d k=false) (hk2:d k2=false) (hne:k2≠k) (hg:g=W.heap.size) (hB:Blk W' g T cs) (hK:Kept [] W W'):SN X w bs T cs k k2 (fun i=>if i=k then true else d i) (fun i=>if i=k then .slice (some ⟨g,0,none⟩) 1 1 else vs i) W':=by
 refine⟨fun h9=>by simp at h9,fun _=>⟨g,by simp,by rw [hg];exact(h.1 hk).kept.size,(h.1 hk).new hg hB hK⟩,fun h9=> ?_⟩
 simp [hne,hk2] at h9
theorem SN.give {X:List Nat} {w W:World} {bs:List (Nat×Nat×List Value)} {T:Nat} {cs:List Value} {k k2:Nat} {d:Nat→Bool} {vs:Nat→Value} (h:SN X w bs T cs k k2 d vs W) (hk:d k=true) (hne:k≠k2):SN X w bs T cs k k2 (fun i=>if i=k2 then true else d i) (fun i=>if i=k2 then vs k else vs i) W:=by
 refine⟨fun h9=> ?_,fun _=> ?_,fun _=>by simp [hne]⟩
 · simp [hne,hk] at h9
 · obtain⟨g,e,hg,hM⟩:=h.2.1 hk
   exact⟨g,by simp [hne,e],hg,hM⟩
end Go.Proofs.Ytbigongmlpoahaa
