import Derived.Test.YtbigongmlpoahaaUEd
import Derived.Test.YtbigongmlpoahaaUOpn
namespace Go.Proofs.Ytbigongmlpoahaa.D
set_option maxRecDepth 100000
set_option linter.unusedSimpArgs false
open Go.ChangeShapes Go.WideShapes Go.ChangeAt Go.RowKit Go.Joins Go.Deep Go.Shelf
def RowS {α:Type} (C:α→List Value) (m:Nat) (W:World) (ao:Option Addr) (l:List α):Prop:=∀i x,l[i]?=some x→∃b o,ao=some ⟨b,o,none⟩∧∀c u,(C x)[c]?=some u→W.cell? ⟨b,o+i*m+c,none⟩=some u
theorem RowS.kept {α:Type} {C:α→List Value} {m:Nat} {W W':World} {ao:Option Addr} {l:List α} (h:RowS C m W ao l) (hk:Kept [] W W'):RowS C m W' ao l:=by
 intro i x hx
 obtain⟨b,o,e,h1⟩:=h i x hx
 exact⟨b,o,e,fun c u hu=>hk.cell (h1 c u hu) (by simp)⟩
theorem spot_none {w:World} {a:Addr} {v:Value} (h:w.cell? a=some v):a=⟨a.block,a.off,none⟩:=by
 have:a.spot=none:=by
   unfold World.cell? at h
   split at h
   · cases hs:a.spot with
     | none=>rfl
     | some s=>simp [hs] at h
   · cases h
 cases a;simp_all
theorem rows_open {α:Type} [Inhabited α] (C:α→List Value) (Ok:α→Prop) (m T E:Nat) (hT:Try.prog.underlying T=some (.slice E)) (hE:Try.prog.cellsOf E=m) (h0:∀x,Ok x→∃u,(C x)[0]?=some u) {H:Type} {enc:TypeId×Value→H} {W:World} (hcells:∀(fuel:Nat) (cs:List Value) (x:DataW H×List MemPlace),DataW.trod enc Try.prog W 0 (fun _=>true) true fuel E cs=some x→∃q,cs=C q∧Ok q) {fuel:Nat} {v:Value} {x:DataW H×List MemPlace}
   (h:DataW.trod enc Try.prog W 0 (fun _=>true) true fuel T [v]=some x):
   ∃(ao:Option Addr) (c:Nat) (l:List α),v= .slice ao l.length c∧(ao=none→l= []∧c=0)∧RowS C m W ao l∧(∀r∈l,Ok r):=by
 rcases open_slice hT h with ⟨hcs,hx⟩ | ⟨a,len,cap,m',n,D,Pl,hcs,_,hl,_,hm,hx,hel⟩
 · cases hcs
   exact⟨none,0,[],rfl,fun _=>⟨rfl,rfl⟩,fun i x hx=>(by simp at hx),fun x hx=>(by cases hx)⟩
 · cases hcs
   simp only [if_true] at hm
   have hch:∀i,i<len→∃q:α,(∀c u,(C q)[c]?=some u→W.cell? (a.add (i*m+c))=some u)∧Ok q:=by
     intro i hi
     obtain⟨cs',h1,h2⟩:=hel i (by omega)
     rw [hE] at h1
     obtain⟨_,hlen,hcell⟩:=World.cells?_some h1
     obtain⟨q,rfl,hq⟩:=hcells _ _ _ h2
     refine⟨q,?_,hq⟩
     intro c u hu
     have hc:c<m:=by have:=(List.getElem?_eq_some_iff.1 hu).1;omega
     have:=hcell c hc
     rw [add_add] at this
     rw [this]
     exact hu
   obtain⟨X,hX⟩:=choose_lt hch
   refine⟨some a,cap,(List.range len).map X,by simp,(fun h=>by cases h),?_,?_⟩
   · intro i x hi
     have hil:i<len:=by have:=(List.getElem?_eq_some_iff.1 hi).1;simpa using this
     obtain rfl:X i=x:=by simpa [hil] using hi
     obtain⟨u0,hu0⟩:=h0 _ (hX 0 (by omega)).2
     have h0:=(hX 0 (by omega)).1 0 u0 hu0
     rw [Nat.zero_mul] at h0
     have ha:=spot_none (show W.cell? a=some _ from h0)
     refine⟨a.block,a.off,by rw [← ha],fun c u hu=> ?_⟩
     have:=(hX i hil).1 c u hu
     rw [ha,Addr.add_lit,← Nat.add_assoc] at this
     exact this
   · intro x hx
     simp only [List.mem_map,List.mem_range] at hx
     obtain⟨i,hi,rfl⟩:=hx
     exact(hX i hi).2
instance : Inhabited Se := ⟨⟨0, 0, 0, 0, 0, 0⟩⟩
theorem fields31':∃f0 f1 f2 f3 f4 f5:Field,Try.prog.underlying 31=some (.struct #[f0,f1,f2,f3,f4,f5])∧(f0.type=3∧f0.offset=0)∧(f1.type=3∧f1.offset=1)∧(f2.type=3∧f2.offset=2)∧(f3.type=29∧f3.offset=3)∧(f4.type=2∧f4.offset=4)∧f5.type=2∧f5.offset=5:=⟨_,_,_,_,_,_,Try.underlying31,⟨rfl,rfl⟩,⟨rfl,rfl⟩,⟨rfl,rfl⟩,⟨rfl,rfl⟩,⟨rfl,rfl⟩,rfl,rfl⟩
theorem six_of {α:Type} {l:List α} (h:l.length=6):∃a b c d e f,l= [a,b,c,d,e,f]:=by
 match l,h with
 | [a,b,c,d,e,f],_=>exact ⟨a,b,c,d,e,f,rfl⟩
theorem se_cells {H:Type} {enc:TypeId×Value→H} {W:World} (fuel:Nat) (cs:List Value) (x:DataW H×List MemPlace) (h:DataW.trod enc Try.prog W 0 (fun _=>true) true fuel 31 cs=some x):∃q:Se,cs=q.C∧True:=by
 obtain⟨f0,f1,f2,f3,f4,f5,hu,⟨t0,o0⟩,⟨t1,o1⟩,⟨t2,o2⟩,⟨t3,o3⟩,⟨t4,o4⟩,t5,o5⟩:=fields31'
 obtain⟨xs,n,_,ex,hl,hlen,hf⟩:=DataW.trod_struct hu h
 obtain⟨y0,y1,y2,y3,y4,y5,rfl⟩:=six_of hlen
 have c2:Try.prog.cellsOf 2=1:=by kernel_rfl
 have c3:Try.prog.cellsOf 3=1:=by kernel_rfl
 have c29:Try.prog.cellsOf 29=1:=by kernel_rfl
 have c31:Try.prog.cellsOf 31=6:=by kernel_rfl
 have h0:=hf 0 f0 rfl
 have h1:=hf 1 f1 rfl
 have h2:=hf 2 f2 rfl
 have h3:=hf 3 f3 rfl
 have h4:=hf 4 f4 rfl
 have h5:=hf 5 f5 rfl
 rw [t0,o0,c3] at h0
 rw [t1,o1,c3] at h1
 rw [t2,o2,c3] at h2
 rw [t3,o3,c29] at h3
 rw [t4,o4,c2] at h4
 rw [t5,o5,c2] at h5
 rw [c31] at hl
 obtain⟨a0,a1,a2,a3,a4,a5,rfl⟩:=six_of hl
 obtain⟨v0,e0,_,_⟩:=DataW.trod_int Try.underlying3 h0
 obtain⟨v1,e1,_,_⟩:=DataW.trod_int Try.underlying3 h1
 obtain⟨v2,e2,_,_⟩:=DataW.trod_int Try.underlying3 h2
 obtain⟨v3,e3,_,_⟩:=DataW.trod_int Try.underlying29 h3
 obtain⟨v4,e4,_,_⟩:=DataW.trod_int Try.underlying2 h4
 obtain⟨v5,e5,_,_⟩:=DataW.trod_int Try.underlying2 h5
 simp at e0 e1 e2 e3 e4 e5
 subst e0 e1 e2 e3 e4 e5
 exact⟨⟨v0,v1,v2,v3,v4,v5⟩,rfl,trivial⟩
theorem steps_open {H:Type} {enc:TypeId×Value→H} {W:World} {fuel:Nat} {v:Value} {x:DataW H×List MemPlace} (h:DataW.trod enc Try.prog W 0 (fun _=>true) true fuel 23 [v]=some x):
   ∃(ao:Option Addr) (c:Nat) (l:List Se),v= .slice ao l.length c∧RowS Se.C 6 W ao l:=by
 obtain⟨ao,c,l,h1,_,h3,_⟩:=rows_open Se.C (fun _=>True) 6 23 31 Try.underlying23 (by kernel_rfl) (fun x _=>⟨_,rfl⟩) se_cells h
 exact⟨ao,c,l,h1,h3⟩
def intC (x:Int):List Value:= [.int .i64 x]
theorem int_cells {H:Type} {enc:TypeId×Value→H} {W:World} (fuel:Nat) (cs:List Value) (x:DataW H×List MemPlace) (h:DataW.trod enc Try.prog W 0 (fun _=>true) true fuel 3 cs=some x):∃q:Int,cs=intC q∧True:=by
 obtain⟨v0,e0,_,_⟩:=DataW.trod_int Try.underlying3 h
 exact⟨v0,e0,trivial⟩
theorem ints_open {H:Type} {enc:TypeId×Value→H} {W:World} {fuel:Nat} {v:Value} {x:DataW H×List MemPlace} (h:DataW.trod enc Try.prog W 0 (fun _=>true) true fuel 22 [v]=some x):
   ∃(ao:Option Addr) (c:Nat) (l:List Int),v= .slice ao l.length c∧RowS intC 1 W ao l∧(ao=none→l= []∧c=0):=by
 obtain⟨ao,c,l,h1,h2,h3,_⟩:=rows_open intC (fun _=>True) 1 22 3 Try.underlying22 (by kernel_rfl) (fun x _=>⟨_,rfl⟩) int_cells h
 exact⟨ao,c,l,h1,h3,h2⟩
theorem inC_one (F:List Int):∀u∈inC F,u.oneCell'=true:=by
 intro u hu
 simp only [inC,List.mem_map] at hu
 obtain⟨q,_,rfl⟩:=hu
 rfl
section
variable {ops:Array Oper} {rest:List Oper} {op o:Oper} {a:Act} {w:World} {K:Act→World→Prop} {Q:Exit→Act→World→Prop}
theorem wpIdxA (hgd:op.guard=none) (x y:Operand) (ho:op.op= .indexAddr 22 x y) (ao:Option Addr) (c:Nat) (X:List Int) (j:Nat) (m:Int) (hx:a.eval x= .slice ao X.length c) (hy:a.eval y= .int .i64 j) (hI:RowS intC 1 w ao X) (hm:X[j]?=some m) (h:∀p,w.cell? p=some (.int .i64 m)→wpList Try.prog ops Q rest (a.put op.dst (.pointer (some p))) w):wpList Try.prog ops Q (op::rest) a w:=
 wpList_plain hgd fun _ hK=>by
   obtain⟨g,off,rfl,hc⟩:=hI j m hm
   exact o_idx36n x y ho g off X.length c j (List.getElem?_eq_some_iff.1 hm).1 hx hy (hK _ _ (h _ (by have:=hc 0 _ rfl;simpa using this)))
theorem o_idxS (x y:Operand) (ho:o.op= .indexAddr 23 x y) (ao:Option Addr) (c:Nat) (X:List Se) (j:Nat) (m:Se) (hx:a.eval x= .slice ao X.length c) (hy:a.eval y= .int .i64 j) (hI:RowS Se.C 6 w ao X) (hm:X[j]?=some m) (h:∀g o',w.rangeAt g o' m.C→K (a.put o.dst (.pointer (some ⟨g,o',none⟩))) w):o.wp Try.prog a w K Q:=by
 obtain⟨g,off,rfl,hc⟩:=hI j m hm
 have hj:=(List.getElem?_eq_some_iff.1 hm).1
 have hjI:(j:Int)<X.length:=by omega
 unfold Oper.wp execOp
 simp only [ho,hx,hy]
 simp [go_sem,hjI]
 exact h _ _ (fun i u hu=>hc i u hu)
theorem wpIdxS (hgd:op.guard=none) (x y:Operand) (ho:op.op= .indexAddr 23 x y) (ao:Option Addr) (c:Nat) (X:List Se) (j:Nat) (m:Se) (hx:a.eval x= .slice ao X.length c) (hy:a.eval y= .int .i64 j) (hI:RowS Se.C 6 w ao X) (hm:X[j]?=some m) (h:∀g o',w.rangeAt g o' m.C→wpList Try.prog ops Q rest (a.put op.dst (.pointer (some ⟨g,o',none⟩))) w):wpList Try.prog ops Q (op::rest) a w:=
 wpList_plain hgd fun _ hK=>o_idxS x y ho ao c X j m hx hy hI hm (fun g o' hp=>hK _ _ (h g o' hp))
theorem wpAppA (hgd:op.guard=none) (x:Operand) (ho:op.op= .call { callee:= .builtin .append,args:= #[.const (.slice none 0 0),x],argTypes:= #[22,22] }) (ao:Option Addr) (c:Nat) (F:List Int) (hx:a.eval x= .slice ao F.length c) (hF:RowS intC 1 w ao F) (hno:ao=none→F= []∧c=0) (hn:F.length≤40)
   (h:∀v W,Is W v F→Kept [] w W→(∀k,v.ownBlock=some k→w.heap.size≤k)→(∀k∈spare v,w.heap.size≤k)→wpList Try.prog ops Q rest (a.put op.dst v) W):wpList Try.prog ops Q (op::rest) a w:=
 wpList_plain hgd fun _ hK=>by
   have hr:∃v W,(Builtin.append_ #[22,22] op.type #[.slice none 0 0,.slice ao F.length c]).run Try.prog w= .ok v W∧Is W v F∧Kept [] w W∧(∀k,v.ownBlock=some k→w.heap.size≤k)∧(∀k∈spare v,w.heap.size≤k):=by
     obtain⟨zv,hI,hzc⟩:=el36.info
     obtain⟨i,hi,hz0,hz1,hz2⟩:=info_parts hI
     cases ao with
     | none=>
       obtain⟨rfl,rfl⟩:=hno rfl
       exact⟨_,w,run_appNone el36 w op.type (.slice none 0 0) 0 [] (Rw.nil _),Rw.nil _,Kept.refl _ _,(fun k hk=>by cases hk),fun k hk=>by cases hk⟩
     | some ad=>
       have hnews:∀j u,(inC F)[j]?=some u→w.cell? (ad.add j)=some u:=fun j u hj=>by
         unfold inC at hj
         rw [List.getElem?_map] at hj
         cases hq:F[j]? with
         | none=>rw [hq] at hj;cases hj
         | some f=>
           rw [hq] at hj
           cases hj
           obtain⟨b,o,e,h1⟩:=hF j f hq
           cases e
           have h2:=h1 0 _ rfl
           rw [Addr.add_lit]
           simpa using h2
       obtain⟨v',w',hr,g2,g3,_,g5⟩:=run_append_own_at (P:=Try.prog) w 0 22 op.type 3 i _ 1 8 el36.sl hi hz0 hz1 hz2 hzc el36.pos (.slice none 0 0) 0 [] (World.ownsRow_nil _ _ _ _) ad F.length c (inC F) (by simp [inC]) hnews (inC_one F) (by unfold maxLen;omega) (by omega) (Nat.zero_le _)
       have hob:∀k,v'.ownBlock=some k→w.heap.size≤k:=fun k hk=>by
         rcases g5 with e | e
         · rw [e] at hk;cases hk
         · rw [e] at hk;cases hk;exact Nat.le_refl _
       have h1:=own_R g2
       rw [Nat.zero_add,List.nil_append] at h1
       exact⟨v',w',hr,h1,Kept.of_grown g3 (fun k e=>by cases e),hob,fun k hk=>hob k (spare_own hk)⟩
   obtain⟨v,W,hr,h1,h2,h3,h4⟩:=hr
   have hc:a.eval (.const (.slice none 0 0))= .slice none 0 0:=rfl
   unfold Oper.wp execOp
   simp only [ho,resolve,invoke,builtin,Sem.run_bind,Sem.run_pure,Result.andThen_ok,List.map_toArray,List.map_cons,List.map_nil,hx,hc,hr]
   exact hK _ _ (h v W h1 h2 h3 h4)
end
theorem row31:Row 31 6:=⟨_,Try.underlying31,rfl,by kernel_rfl⟩
end Go.Proofs.Ytbigongmlpoahaa.D
