import Derived.Test.YtbigongmlpoahaaUKa
import Derived.ArgAppend
import Derived.Maps.AppendAt
import Derived.Laws.OwnMore
namespace Go.Proofs.Ytbigongmlpoahaa
set_option maxRecDepth 100000
set_option linter.unusedSimpArgs false
open Go.RowKit
structure Rw (W:World) (e z:Nat) (v:Value) (n:Nat) (xs:List Value):Prop where
 len:xs.length=n*z
 lie:(v= .slice none 0 0∧n=0)∨∃g off cap cur,v= .slice (some ⟨g,off,none⟩) n cap∧W.heap[g]?=some (.cells cur e (0,0))∧n≤cap∧cap≤maxLen∧off+cap*z≤cur.size∧∀j u,xs[j]?=some u→cur[off+j]?=some u
def spare:Value→List Nat
 | .slice (some a) n c=>if n<c then [a.block] else []
 | _=> []
variable {e z:Nat}
theorem spare_own {v:Value} {k:Nat} (h:k∈spare v):v.ownBlock=some k:=by
 unfold spare at h
 split at h
 · split at h
   · simp at h;subst h;rfl
   · cases h
 · cases h
theorem Rw.block {W:World} {v:Value} {n:Nat} {xs:List Value} (h:Rw W e z v n xs):∀k,v.ownBlock=some k→∃cs,W.heap[k]?=some (.cells cs e (0,0)):=by
 intro k hk
 rcases h.lie with ⟨rfl,_⟩ | ⟨g,off,cap,cur,rfl,h1,_⟩
 · cases hk
 · cases hk;exact⟨cur,h1⟩
theorem Rw.lt {W:World} {v:Value} {n:Nat} {xs:List Value} (h:Rw W e z v n xs) {k:Nat} (hk:v.ownBlock=some k):k<W.heap.size:=by
 obtain⟨cs,hc⟩:=h.block k hk
 exact lt_of_block hc
theorem Rw.kept {W W':World} {v:Value} {n:Nat} {xs:List Value} {X:List Nat} (h:Rw W e z v n xs) (hk:Kept X W W') (hX:∀k,v.ownBlock=some k→k∉X):Rw W' e z v n xs:=by
 refine⟨h.len,?_⟩
 rcases h.lie with h1 | ⟨g,off,cap,cur,rfl,h1,h2⟩
 · exact .inl h1
 · exact .inr ⟨g,off,cap,cur,rfl,hk.heap h1 (hX g rfl),h2⟩
theorem Rw.ne {W:World} {v:Value} {n:Nat} {xs:List Value} (h:Rw W e z v n xs) {b T:Nat} {vs:List Value} (hB:Blk W b T vs) (hT:T≠e):∀k,v.ownBlock=some k→k∉ [b]:=by
 intro k hk hx
 simp at hx;subst hx
 obtain⟨cs,hc⟩:=h.block k hk
 unfold Blk at hB
 rw [hc] at hB
 injection hB with hB
 injection hB with _ hB
 exact hT hB.symm
theorem Rw.sl {W:World} {v:Value} {n:Nat} {xs:List Value} (h:Rw W e z v n xs):∃ao c,v= .slice ao n c∧n≤c∧(ao=none→n=0∧c=0):=by
 rcases h.lie with ⟨rfl,rfl⟩ | ⟨g,off,cap,cur,rfl,_,h2,_⟩
 · exact⟨none,0,rfl,Nat.le_refl _,fun _=>⟨rfl,rfl⟩⟩
 · exact⟨_,cap,rfl,h2,fun e=>by cases e⟩
theorem Rw.one {W:World} {v:Value} {n:Nat} {xs:List Value} (h:Rw W e z v n xs):One v:=by
 obtain⟨ao,c,rfl,_⟩:=h.sl
 exact⟨rfl,rfl⟩
theorem Rw.cell {W:World} {ad:Addr} {n c:Nat} {xs:List Value} (h:Rw W e z (.slice (some ad) n c) n xs) {j:Nat} {u:Value} (hj:xs[j]?=some u):W.cell? (ad.add j)=some u:=by
 rcases h.lie with ⟨h1,_⟩ | ⟨g,off,cap,cur,h1,h2,_,_,_,h3⟩
 · cases h1
 · cases h1
   rw [Addr.add_lit,cell_of_block h2]
   exact h3 j u hj
theorem Rw.at {W:World} {v:Value} {n:Nat} {xs:List Value} (h:Rw W e z v n xs) {i:Nat} (hi:i<n):∃g off c,v= .slice (some ⟨g,off,none⟩) n c∧∀j u,xs[i*z+j]?=some u→W.cell? ⟨g,off+i*z+j,none⟩=some u:=by
 rcases h.lie with ⟨rfl,rfl⟩ | ⟨g,off,cap,cur,rfl,h1,_,_,_,h3⟩
 · omega
 · refine⟨g,off,cap,rfl,fun j u hj=> ?_⟩
   rw [cell_of_block h1,Nat.add_assoc]
   exact h3 _ u hj
theorem own_R {W:World} {base n:Nat} {v:Value} {xs:List Value} (h:W.ownsRow base e z v n xs):Rw W e z v n xs:=by
 refine⟨h.1,?_⟩
 rcases h.2 with h1 | ⟨g,cap,cur,h1,_,h3,h4,h5,h6,h7⟩
 · exact .inl h1
 · refine .inr ⟨g,0,cap,cur,h1,h3,h4,h5,by omega,fun j u hj=> ?_⟩
   rw [Nat.zero_add,← Array.getElem?_toList]
   rw [← h7] at hj
   rw [List.getElem?_take] at hj
   split at hj
   · exact hj
   · cases hj
theorem Rw.nil (W:World):Rw W e z (.slice none 0 0) 0 []:=⟨by simp,.inl ⟨rfl,rfl⟩⟩
theorem Rw.made {W:World} {g n:Nat} {xs:List Value} (h:Blk W g e xs) (hl:xs.length=n*z) (hn:n≤maxLen):Rw W e z (.slice (some ⟨g,0,none⟩) n n) n xs:=
 ⟨hl,.inr ⟨g,0,n,xs.toArray,rfl,h,Nat.le_refl _,hn,by simp [hl],fun j u hj=>by simpa using hj⟩⟩
structure El (T e z y:Nat):Prop where
 sl:Try.prog.underlying T=some (.slice e)
 info:∃zv,(Try.prog.info? e).map (fun i=>(i.zero,i.size,i.bytes))=some (some zv,z,y)∧zv.cells.size=z
 pos:0<z
theorem el28:El 81 74 6 48:=⟨by kernel_rfl,⟨aggV (Od.C ⟨0,0,0,0,0,0⟩),by kernel_rfl,rfl⟩,by omega⟩
theorem el38:El 35 38 2 16:=⟨by kernel_rfl,⟨aggV wi0.C,by kernel_rfl,rfl⟩,by omega⟩
theorem el36:El 22 3 1 8:=⟨by kernel_rfl,⟨.int .i64 0,by kernel_rfl,rfl⟩,by omega⟩
theorem run_appNone {T y:Nat} (hE:El T e z y) (w:World) (ty:TypeId) (v:Value) (n:Nat) (xs:List Value) (h:Rw w e z v n xs):(Builtin.append_ #[T,T] ty #[v,.slice none 0 0]).run Try.prog w= .ok v w:=by
 obtain⟨zv,hI,hzc⟩:=hE.info
 obtain⟨i,hi,hz0,hz1,hz2⟩:=info_parts hI
 obtain⟨ao,c,rfl,hc,hn⟩:=h.sl
 cases ao with
 | none=>
   obtain⟨rfl,rfl⟩:=hn rfl
   simp [Builtin.append_,Builtin.firstCells,Builtin.lenOf,Sem.run_bind,run_underlying hE.sl,sizeOf,typeInfo,hi]
 | some ad=>
   simp [Builtin.append_,Builtin.firstCells,Builtin.lenOf,Sem.run_bind,run_underlying hE.sl,sizeOf,typeInfo,hi,hc,storeCells]
theorem run_app {T y:Nat} (hE:El T e z y) (w:World) (ty:TypeId) (v:Value) (n:Nat) (xs:List Value) (h:Rw w e z v n xs) (u:Value) (m:Nat) (news:List Value) (k:Rw w e z u m news) (hone:∀u∈news,u.oneCell'=true) (hn:(n+m)*y≤140737488355328) (hmx:n+m≤maxLen):
   ∃v' w',(Builtin.append_ #[T,T] ty #[v,u]).run Try.prog w= .ok v' w'∧Rw w' e z v' (n+m) (xs++news)∧Kept (spare v) w w'∧(∀k,v'.ownBlock=some k→v.ownBlock=some k∨w.heap.size≤k)∧(∀k∈spare v',k∈spare v∨w.heap.size≤k):=by
 obtain⟨zv,hI,hzc⟩:=hE.info
 obtain⟨i,hi,hz0,hz1,hz2⟩:=info_parts hI
 obtain⟨ao,c,rfl,hmc,hao⟩:=k.sl
 cases ao with
 | none=>
   obtain⟨rfl,rfl⟩:=hao rfl
   obtain rfl:news= []:=List.length_eq_zero_iff.1 (by rw [k.len];simp)
   refine⟨v,w,run_appNone hE w ty v n xs h,by simpa using h,Kept.refl _ _,fun k hk=> .inl hk,fun k hk=> .inl hk⟩
 | some ad=>
 have hl:=k.len
 have hnews:∀j u,news[j]?=some u→w.cell? (ad.add j)=some u:=fun j u hj=>k.cell hj
 rcases h.lie with ⟨rfl,rfl⟩ | ⟨g,off,cap,cur,rfl,h1,h2,h3,h4,h5⟩
 · have hx:xs= []:=List.length_eq_zero_iff.1 (by rw [h.len];simp)
   subst hx
   obtain⟨v',w',hr,g2,g3,_,g5⟩:=run_append_own_at (P:=Try.prog) w 0 T ty e i _ z y hE.sl hi hz0 hz1 hz2 hzc hE.pos (.slice none 0 0) 0 [] (World.ownsRow_nil _ _ _ _) ad m c news hl hnews hone hmx (by omega) (Nat.zero_le _)
   have hob:∀k,v'.ownBlock=some k→(Value.slice none 0 0).ownBlock=some k∨w.heap.size≤k:=fun k hk=>by
     rcases g5 with e | e
     · rw [← e];exact .inl hk
     · rw [e] at hk;cases hk;exact .inr (Nat.le_refl _)
   exact⟨v',w',hr,own_R g2,Kept.of_grown g3 (fun k e=>by cases e),hob,fun k hk=>by
     rcases hob k (spare_own hk) with e | e
     · cases e
     · exact .inr e⟩
 · by_cases hroom:n+m≤cap
   · have hs:i.size=z:=hz1
     have hmul:(n+m)*z≤cap*z:=Nat.mul_le_mul_right _ hroom
     have hadd:(n+m)*z=n*z+m*z:=Nat.add_mul _ _ _
     have hr:=run_append_room_cells (P:=Try.prog) w T ty e i hE.sl hi g off n cap ad m c news (by rw [hs,hl]) hnews hone hroom (fun j hj=>by
         rw [hs,cell_of_block h1,Array.getElem?_eq_getElem (by rw [hl] at hj;omega)]
         rfl) (fun j _=>by rw [hs];exact frozen_of_block h1 _)
     rw [hs] at hr
     have hsp:spare (.slice (some ⟨g,off,none⟩) n cap)=if n<cap then [g] else []:=rfl
     have hk:Kept (spare (.slice (some ⟨g,off,none⟩) n cap)) w (w.setCells g (off+n*z) news):=by
       by_cases hm:m=0
       · subst hm
         obtain rfl:news= []:=List.length_eq_zero_iff.1 (by rw [hl];simp)
         exact Kept.refl _ _
       · rw [hsp,if_pos (by omega)]
         exact(Kept.refl _ _).setCells news _ (by simp)
     refine⟨_,_,hr,?_,hk,fun k hk=> .inl hk,fun k hk=> .inl ?_⟩
     · have hcs:(w.setCells g (off+n*z) news).heap[g]?=some (.cells ((cur.toList.take (off+n*z))++news++(cur.toList.drop (off+n*z+m*z))).toArray e (0,0)):=by
         refine heap_sets news w (off+n*z) (cur.toList.take (off+n*z)) ((cur.toList.drop (off+n*z)).take (m*z)) (cur.toList.drop (off+n*z+m*z)) ?_ ?_ ?_
         · rw [h1]
           congr 2
           have e:cur.toList.take (off+n*z)++(cur.toList.drop (off+n*z)).take (m*z)++cur.toList.drop (off+n*z+m*z)=cur.toList:=by
             have e2:cur.toList.drop (off+n*z+m*z)=(cur.toList.drop (off+n*z)).drop (m*z):=by rw [List.drop_drop]
             rw [List.append_assoc,e2,List.take_append_drop,List.take_append_drop]
           rw [e]
         · rw [List.length_take,Array.length_toList];omega
         · rw [List.length_take,List.length_drop,Array.length_toList,hl];omega
       refine⟨by rw [List.length_append,h.len,hl];omega,.inr ⟨g,off,cap,_,rfl,hcs,hroom,h3,?_,fun j u hj=> ?_⟩⟩
       · simp only [List.size_toArray,List.length_append,List.length_take,List.length_drop,Array.length_toList,hl]
         omega
       · rw [List.getElem?_toArray]
         have hx:=h.len
         by_cases hjx:j<xs.length
         · rw [List.getElem?_append_left hjx] at hj
           have h8:=h5 j u hj
           rw [List.append_assoc,List.getElem?_append_left (by rw [List.length_take,Array.length_toList];omega),List.getElem?_take_of_lt (by omega),Array.getElem?_toList]
           exact h8
         · rw [List.getElem?_append_right (by omega)] at hj
           have hjl:j-xs.length<m*z:=by have:=(List.getElem?_eq_some_iff.1 hj).1;omega
           rw [List.append_assoc,List.getElem?_append_right (by rw [List.length_take,Array.length_toList];omega),List.getElem?_append_left (by rw [List.length_take,Array.length_toList];omega)]
           rw [← hj]
           congr 1
           rw [List.length_take,Array.length_toList]
           omega
     · have hsp2:spare (.slice (some ⟨g,off,none⟩) (n+m) cap)=if n+m<cap then [g] else []:=rfl
       rw [hsp2] at hk
       rw [hsp]
       split at hk
       · rw [if_pos (by omega)];exact hk
       · cases hk
   · obtain⟨v',w',hr,g2,g3⟩:=run_append_arg_grows (P:=Try.prog) w T ty e i _ z y hE.sl hi hz0 hz1 hz2 hzc hE.pos ⟨g,off,none⟩ n cap xs h.len (fun j u hj=>by rw [Addr.add_lit,cell_of_block h1];exact h5 j u hj) ad m c news hl hnews (by omega) hmx hn
     have hob:∀k,v'.ownBlock=some k→w.heap.size≤k:=fun k hk=>by
       rcases g2.2 with ⟨e1,h0⟩ | ⟨g',cap',cur',e1,hge,hb,_⟩
       · rw [e1] at hk;cases hk
       · rw [e1] at hk
         cases hk
         exact hge
     exact⟨v',w',hr,own_R g2,Kept.of_grown g3 (fun k e=>by cases e),fun k hk=> .inr (hob k hk),fun k hk=> .inr (hob k (spare_own hk))⟩
def restV (z:Nat) (ao:Option Addr) (n c k:Nat):Value:= .slice (ao.map fun ad=>if c=k then ad else ad.add (k*z)) (n-k) (c-k)
theorem Rw.rest {W:World} {ao:Option Addr} {n c:Nat} {xs:List Value} (h:Rw W e z (.slice ao n c) n xs) (k:Nat) (hk:k≤n):Rw W e z (restV z ao n c k) (n-k) (xs.drop (k*z)):=by
 have hm:k*z≤n*z:=Nat.mul_le_mul_right _ hk
 refine⟨by rw [List.length_drop,h.len,Nat.sub_mul],?_⟩
 rcases h.lie with ⟨h1,h2⟩ | ⟨g,off,cap,cur,h1,h2,h3,h4,h5,h6⟩
 · cases h1
   exact .inl ⟨by unfold restV;simp,by omega⟩
 · cases h1
   have hc:k*z≤c*z:=Nat.mul_le_mul_right _ (by omega)
   have hcs:(c-k)*z=c*z-k*z:=Nat.sub_mul _ _ _
   by_cases e:c=k
   · refine .inr ⟨g,off,c-k,cur,by unfold restV;simp [e],h2,by omega,by omega,by omega,fun j u hj=> ?_⟩
     have hn:n=k:=by omega
     rw [List.drop_eq_nil_of_le (by rw [h.len,hn];exact Nat.le_refl _)] at hj
     simp at hj
   · refine .inr ⟨g,off+k*z,c-k,cur,by unfold restV;simp [e,Addr.add_lit],h2,by omega,by omega,by omega,fun j u hj=> ?_⟩
     rw [List.getElem?_drop] at hj
     have:=h6 _ u hj
     rw [← this]
     congr 1
     omega
theorem rest_own (z:Nat) (ao:Option Addr) (n c k:Nat):(restV z ao n c k).ownBlock=(Value.slice ao n c).ownBlock:=by
 cases ao with
 | none=>rfl
 | some ad=>
   unfold restV Value.ownBlock
   simp
   split
   · rfl
   · simp only [Addr.add]
     split <;> rfl
theorem rest_spare (z:Nat) (ao:Option Addr) (n c k:Nat) (h:k≤n):∀x∈spare (restV z ao n c k),x∈spare (.slice ao n c):=by
 intro x hx
 have ho:=spare_own hx
 rw [rest_own] at ho
 cases ao with
 | none=>cases ho
 | some ad=>
   cases ho
   have:spare (.slice (some ad) n c)=if n<c then [ad.block] else []:=rfl
   rw [this]
   unfold restV at hx
   simp only [Option.map_some,spare] at hx
   split at hx
   · rw [if_pos (by omega)];simp
   · cases hx
section
variable {o:Oper} {a:Act} {w:World} {K:Act→World→Prop} {Q:Exit→Act→World→Prop}
theorem o_rest1 {T:Nat} (hT:T=35∧z=2∨T=81∧z=6) (x:Operand) (ho:o.op= .slice T x (some (.const (.int .i64 1))) none none) (ao:Option Addr) (n c:Nat) (hn:n≤c) (hno:ao=none→n=0∧c=0) (hk:1≤n) (hx:a.eval x= .slice ao n c) (h:K (a.put o.dst (restV z ao n c 1)) w):o.wp Try.prog a w K Q:=by
 have hk1:(1:Int)≤n:=by omega
 rcases hT with ⟨rfl,rfl⟩ | ⟨rfl,rfl⟩ <;> (
 unfold Oper.wp execOp
 simp only [ho,hx,Option.map_none,Option.map_some]
 cases ao with
 | none=>have:=hno rfl;omega
 | some ad=>
   obtain⟨g,off,sp⟩:=ad
   unfold restV at h
   simp at h
   by_cases e:c=1
   · simp [e] at h
     subst e
     obtain rfl:n=1:=by omega
     simp [go_sem,Act.eval]
     simp at h
     exact h
   · simp [e] at h
     simp [go_sem,Act.eval,hk,hk1,e]
     exact h)
theorem o_appR {T y:Nat} (hE:El T e z y) (s x:Operand) (ho:o.op= .call { callee:= .builtin .append,args:= #[s,x],argTypes:= #[T,T] }) (v:Value) (n:Nat) (xs:List Value) (hs:a.eval s=v) (hO:Rw w e z v n xs) (u:Value) (m:Nat) (news:List Value) (hx:a.eval x=u) (hB:Rw w e z u m news) (hone:∀u∈news,u.oneCell'=true) (hn:(n+m)*y≤140737488355328) (hmx:n+m≤maxLen)
   (h:∀v' W,Rw W e z v' (n+m) (xs++news)→Kept (spare v) w W→(∀k,v'.ownBlock=some k→v.ownBlock=some k∨w.heap.size≤k)→(∀k∈spare v',k∈spare v∨w.heap.size≤k)→K (a.put o.dst v') W):o.wp Try.prog a w K Q:=by
 obtain⟨v',w',hr,h1,h2,h3,h4⟩:=run_app hE w o.type v n xs hO u m news hB hone hn hmx
 unfold Oper.wp execOp
 simp only [ho,resolve,invoke,builtin,Sem.run_bind,Sem.run_pure,Result.andThen_ok,List.map_toArray,List.map_cons,List.map_nil,hs,hx,hr]
 exact h _ _ h1 h2 h3 h4
end
section
variable {ops:Array Oper} {rest:List Oper} {op:Oper} {a:Act} {w:World} {Q:Exit→Act→World→Prop}
theorem wpAppR {T y:Nat} (hE:El T e z y) (hgd:op.guard=none) (s x:Operand) (ho:op.op= .call { callee:= .builtin .append,args:= #[s,x],argTypes:= #[T,T] }) (v:Value) (n:Nat) (xs:List Value) (hs:a.eval s=v) (hO:Rw w e z v n xs) (u:Value) (m:Nat) (news:List Value) (hx:a.eval x=u) (hB:Rw w e z u m news) (hone:∀u∈news,u.oneCell'=true) (hn:(n+m)*y≤140737488355328) (hmx:n+m≤maxLen)
   (h:∀v' W,Rw W e z v' (n+m) (xs++news)→Kept (spare v) w W→(∀k,v'.ownBlock=some k→v.ownBlock=some k∨w.heap.size≤k)→(∀k∈spare v',k∈spare v∨w.heap.size≤k)→wpList Try.prog ops Q rest (a.put op.dst v') W):wpList Try.prog ops Q (op::rest) a w:=
 wpList_plain hgd fun _ hK=>o_appR hE s x ho v n xs hs hO u m news hx hB hone hn hmx (fun v' W h1 h2 h3 h4=>hK _ _ (h v' W h1 h2 h3 h4))
end
theorem Wi.len (l:List Wi):(wsC l).length=l.length*2:=by
 induction l with
 | nil=>rfl
 | cons m l ih=>simp only [wsC,List.map_cons,List.flatten_cons,List.length_append,List.length_cons] at *;rw [ih];simp [Wi.C];omega
theorem Od.len (l:List Od):(odC l).length=l.length*6:=by
 induction l with
 | nil=>rfl
 | cons m l ih=>simp only [odC,List.map_cons,List.flatten_cons,List.length_append,List.length_cons] at *;rw [ih];simp [Od.C];omega
theorem wsC_app (a b:List Wi):wsC (a++b)=wsC a++wsC b:=by simp [wsC]
theorem odC_app (a b:List Od):odC (a++b)=odC a++odC b:=by simp [odC]
theorem inC_app (a b:List Int):inC (a++b)=inC a++inC b:=by simp [inC]
theorem wsC_one (l:List Wi):∀v∈wsC l,v.oneCell'=true:=by
 intro v hv
 simp only [wsC,List.mem_flatten,List.mem_map] at hv
 obtain⟨_,⟨x,_,rfl⟩,hv⟩:=hv
 exact x.one v hv
theorem odC_one (l:List Od):∀v∈odC l,v.oneCell'=true:=by
 intro v hv
 simp only [odC,List.mem_flatten,List.mem_map] at hv
 obtain⟨_,⟨x,_,rfl⟩,hv⟩:=hv
 exact x.one v hv
theorem inC_one (l:List Int):∀v∈inC l,v.oneCell'=true:=by
 intro v hv
 simp only [inC,List.mem_map] at hv
 obtain⟨x,_,rfl⟩:=hv
 rfl
@[reducible] def Ws (W:World) (v:Value) (l:List Wi):Prop:=Rw W 38 2 v l.length (wsC l)
@[reducible] def Os (W:World) (v:Value) (l:List Od):Prop:=Rw W 74 6 v l.length (odC l)
@[reducible] def Is (W:World) (v:Value) (l:List Int):Prop:=Rw W 3 1 v l.length (inC l)
theorem wsC_at {l:List Wi} {i:Nat} {x:Wi} (h:l[i]?=some x) (j:Nat) (hj:j<2):(wsC l)[i*2+j]?=x.C[j]?:=by
 obtain⟨hi,rfl⟩:=List.getElem?_eq_some_iff.1 h
 have he:l=l.take i++ [l[i]]++l.drop (i+1):=by simp
 have hl:(wsC (l.take i)).length=i*2:=by rw [Wi.len,List.length_take];omega
 conv=>lhs;rw [he]
 rw [wsC_app,wsC_app,List.append_assoc,List.getElem?_append_right (by omega),hl,Nat.add_sub_cancel_left,List.getElem?_append_left (by simp [wsC,Wi.C];omega)]
 simp [wsC]
theorem odC_at {l:List Od} {i:Nat} {x:Od} (h:l[i]?=some x) (j:Nat) (hj:j<6):(odC l)[i*6+j]?=x.C[j]?:=by
 obtain⟨hi,rfl⟩:=List.getElem?_eq_some_iff.1 h
 have he:l=l.take i++ [l[i]]++l.drop (i+1):=by simp
 have hl:(odC (l.take i)).length=i*6:=by rw [Od.len,List.length_take];omega
 conv=>lhs;rw [he]
 rw [odC_app,odC_app,List.append_assoc,List.getElem?_append_right (by omega),hl,Nat.add_sub_cancel_left,List.getElem?_append_left (by simp [odC,Od.C];omega)]
 simp [odC]
theorem Ws.get {W:World} {v:Value} {l:List Wi} (h:Ws W v l) {i:Nat} {x:Wi} (hi:l[i]?=some x):∃g off c,v= .slice (some ⟨g,off,none⟩) l.length c∧W.rangeAt g (off+i*2) x.C:=by
 obtain⟨g,off,c,rfl,hc⟩:=Rw.at h (List.getElem?_eq_some_iff.1 hi).1
 refine⟨g,off,c,rfl,fun j u hj=>hc j u ?_⟩
 rw [wsC_at hi j (List.getElem?_eq_some_iff.1 hj).1];exact hj
theorem Os.get {W:World} {v:Value} {l:List Od} (h:Os W v l) {i:Nat} {x:Od} (hi:l[i]?=some x):∃g off c,v= .slice (some ⟨g,off,none⟩) l.length c∧W.rangeAt g (off+i*6) x.C:=by
 obtain⟨g,off,c,rfl,hc⟩:=Rw.at h (List.getElem?_eq_some_iff.1 hi).1
 refine⟨g,off,c,rfl,fun j u hj=>hc j u ?_⟩
 rw [odC_at hi j (List.getElem?_eq_some_iff.1 hj).1];exact hj
theorem Is.get {W:World} {v:Value} {l:List Int} (h:Is W v l) {i:Nat} {x:Int} (hi:l[i]?=some x):∃g off c,v= .slice (some ⟨g,off,none⟩) l.length c∧W.cell? ⟨g,off+i,none⟩=some (.int .i64 x):=by
 obtain⟨g,off,c,rfl,hc⟩:=Rw.at h (List.getElem?_eq_some_iff.1 hi).1
 refine⟨g,off,c,rfl,?_⟩
 have:=hc 0 (.int .i64 x) (by simp [inC,hi])
 simpa using this
theorem max1000 {n:Nat} (h:n≤1000000):n≤maxLen:=by unfold maxLen;omega
end Go.Proofs.Ytbigongmlpoahaa
