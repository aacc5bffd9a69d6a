/-
  Texts of the walks of member, shortened.
-/
import Derived.Test.YtcfflbafclmheaaGreatDoorDar
import Derived.Test.YtcfflbafclmheaaGreatDoorRows
import Derived.MakeChecks
import Derived.LaidLaws
import Derived.ProofKit
import Derived.OpenShut
import Derived.SizedLaws
import Derived.Lib.SmallJoins
import Derived.LaidMore
import Derived.Lay
import Derived.SevenTiedAt
import Derived.Stop.Joined
import Derived.Test.YtcfflbafclmheaaGreatDoorDbb
import Derived.Deep.CutBlock
set_option maxRecDepth 100000
set_option maxHeartbeats 100000000
set_option linter.unusedSimpArgs false
namespace Go.Proofs.YtcfflbafclmheaaGreatDoor
open Go.ChangeShapes Go.WideShapes Go.ChangeAt Go.RowKit Go.Joins Go.Deep
open Vi
theorem own:ownKnob Tryz.prog.godebug=none:=by kernel_rfl
theorem Tryz.laidOut:laidOutB Tryz.prog=true:=by kernel_rfl
theorem fields26':∃f0 f1:Field,Tryz.prog.underlying 26=some (.struct #[f0,f1])∧(f0.type=4∧f0.offset=0)∧f1.type=2∧f1.offset=1:=⟨_,_,Tryz.underlying26,⟨rfl,rfl⟩,rfl,rfl⟩
theorem fields29':∃f0 f1 f2 f3:Field,Tryz.prog.underlying 29=some (.struct #[f0,f1,f2,f3])∧(f0.type=2∧f0.offset=0)∧(f1.type=4∧f1.offset=1)∧(f2.type=3∧f2.offset=2)∧f3.type=27∧f3.offset=3:=⟨_,_,_,_,Tryz.underlying29,⟨rfl,rfl⟩,⟨rfl,rfl⟩,⟨rfl,rfl⟩,rfl,rfl⟩
def memD {H:Type} (m:Bool×Int):DataW H:= .agg [.lit (.bool m.1),.lit (.int .i64 m.2)]
theorem two_of {α:Type} {l:List α} (h:l.length=2):∃a b,l= [a,b]:=by
 match l,h with
 | [a,b],_=>exact ⟨a,b,rfl⟩
theorem four_of {α:Type} {l:List α} (h:l.length=4):∃a b c d,l= [a,b,c,d]:=by
 match l,h with
 | [a,b,c,d],_=>exact ⟨a,b,c,d,rfl⟩
theorem three_then {α:Type} {l:List α} {n:Nat} (h:l.length=n+3):∃a b c r,l=a::b::c::r:=by
 match l,h with
 | a::b::c::r,_=>exact ⟨a,b,c,r,rfl⟩
 | [],h=>simp at h
 | [_],h=>simp at h
 | [_,_],h=>simp at h
theorem mem_cells {H:Type} {enc:TypeId×Value→H} {W:World} {he:Bool} {fuel:Nat} {cs:List Value} {x:DataW H×List MemPlace} (h:DataW.trod enc Tryz.prog W 0 (fun _=>true) he fuel 26 cs=some x):∃m:Bool×Int,cs=QD m∧I64 m.2∧x.1=memD m:=by
 obtain⟨f0,f1,hu,⟨t0,o0⟩,t1,o1⟩:=fields26';obtain⟨xs,n,_,ex,hl,hlen,hf⟩:=DataW.trod_struct hu h;obtain⟨y0,y1,rfl⟩:=two_of hlen;have c2:Tryz.prog.cellsOf 2=1:=by kernel_rfl
 have c4:Tryz.prog.cellsOf 4=1:=by kernel_rfl
 have c26:Tryz.prog.cellsOf 26=2:=by kernel_rfl
 have h0:=hf 0 f0 rfl;have h1:=hf 1 f1 rfl;rw [t0,o0,c4] at h0;rw [t1,o1,c2] at h1;rw [c26] at hl;obtain⟨a0,a1,rfl⟩:=two_of hl;obtain⟨v0,e0,d0⟩:=DataW.trod_bool Tryz.underlying4 h0;obtain⟨v1,e1,d1,w1⟩:=DataW.trod_int Tryz.underlying2 h1;simp at e0 e1 d0 d1;subst e0 e1;refine⟨(v0,v1),rfl,bounds_i64 w1,?_⟩;rw [ex,d0,d1];rfl
set_option maxRecDepth 100000 in
theorem mems_open {H:Type} {enc:TypeId×Value→H} {W:World} {he:Bool} {fuel:Nat} {cs:List Value} {x:DataW H×List MemPlace} (h:DataW.trod enc Tryz.prog W 0 (fun _=>true) he fuel 27 cs=some x):∃ms:List (Bool×Int),cs=QP ms∧ms.length=8∧(∀m∈ms,I64 m.2)∧x.1= .agg (ms.map memD):=by
 obtain⟨xs,m,_,ex,hl,hlen,hel⟩:=DataW.trod_array Tryz.underlying27 h;have c26:Tryz.prog.cellsOf 26=2:=by kernel_rfl
 have c27:Tryz.prog.cellsOf 27=16:=by kernel_rfl
 rw [c27] at hl;have hch:∀i,i<8→∃q:Bool×Int,(cs.drop (i*2)).take 2=QD q∧I64 q.2∧∀y,xs[i]?=some y→y.1=memD q:=by
   intro i hi;have hE:=hel i hi;rw [c26,List.getElem?_eq_getElem (by omega)] at hE;obtain⟨q,h1,h2,h3⟩:=mem_cells hE;refine⟨q,h1,h2,fun y hy=> ?_⟩;have:xs[i]'(by omega)=y:=by rw [List.getElem?_eq_getElem (by omega)] at hy;exact Option.some.inj hy
   rw [← this];simpa using h3
 obtain⟨X,hX⟩:=choose_lt hch;refine⟨(List.range 8).map X,?_,by simp,?_,?_⟩
 · have hsplit:∀(k:Nat) (l:List Value),l.length=k*2→(∀i,i<k→(l.drop (i*2)).take 2=QD (X (8-k+i)))→k≤8→l=QP ((List.range k).map (fun i=>X (8-k+i))):=by
     intro k
     induction k with
     | zero=>intro l hl _ _;rw [List.length_eq_zero_iff.1 (by omega:l.length=0)];rfl
     | succ k ih=>
      intro l hl hh hk
      match l,hl with
      | a::b::l,hl=>
       have h0:=hh 0 (by omega);simp at h0;have:=ih l (by simp at hl;omega) (fun i hi=>by
        have:=hh (i+1) (by omega);rw [show (i+1)*2=i*2+1+1 by omega,List.drop_succ_cons,List.drop_succ_cons] at this;rw [this,show 8-(k+1)+(i+1)=8-k+i by omega]) (by omega)
       rw [List.range_succ_eq_map,List.map_cons,List.map_map,memsC_cons,this];have he:(fun i=>X (8-k+i))=(fun i=>X (8-(k+1)+i))∘Nat.succ:=by
        funext i;show X _=X _;congr 1;simp only [Nat.succ_eq_add_one];omega
       rw [he];have h1: [a,b]=QD (X (8-(k+1))):=by rw [show 8-(k+1)=7-k by omega];exact h0
       unfold QD at h1;injection h1 with h1 h2;injection h2 with h2 _;rw [h1,h2];rfl
      | [_],hl=>simp at hl;omega
      | [],hl=>simp at hl
   have:=hsplit 8 cs (by omega) (fun i hi=>by rw [show 8-8+i=i by omega];exact(hX i hi).1) (Nat.le_refl _);simpa using this
 · intro m hm;simp only [List.mem_map,List.mem_range] at hm;obtain⟨i,hi,rfl⟩:=hm;exact(hX i hi).2.1
 · rw [ex];show DataW.agg _=_;congr 1;apply List.ext_getElem?;intro i;by_cases hi:i<8
   · have:=(hX i hi).2.2 (xs[i]'(by omega)) (List.getElem?_eq_getElem (by omega));simp [hi,this,show i<xs.length by omega]
   · rw [List.getElem?_eq_none (by simp;omega),List.getElem?_eq_none (by simp;omega)]
def vwD {H:Type} (v:Vw):DataW H:= .agg [.lit (.int .i64 v.nu),.lit (.bool v.op),.lit (.int .i64 v.fd),.agg (v.ms.map memD)]
theorem vw_cells {H:Type} {enc:TypeId×Value→H} {W:World} {he:Bool} {fuel:Nat} {cs:List Value} {x:DataW H×List MemPlace} (h:DataW.trod enc Tryz.prog W 0 (fun _=>true) he fuel 29 cs=some x):∃v:Vw,cs=vwC v∧v.Ok∧x.1=vwD v:=by
 obtain⟨f0,f1,f2,f3,hu,⟨t0,o0⟩,⟨t1,o1⟩,⟨t2,o2⟩,t3,o3⟩:=fields29';obtain⟨xs,n,_,ex,hl,hlen,hf⟩:=DataW.trod_struct hu h;obtain⟨y0,y1,y2,y3,rfl⟩:=four_of hlen;have c2:Tryz.prog.cellsOf 2=1:=by kernel_rfl
 have c3:Tryz.prog.cellsOf 3=1:=by kernel_rfl
 have c4:Tryz.prog.cellsOf 4=1:=by kernel_rfl
 have c27:Tryz.prog.cellsOf 27=16:=by kernel_rfl
 have c29:Tryz.prog.cellsOf 29=19:=by kernel_rfl
 have h0:=hf 0 f0 rfl;have h1:=hf 1 f1 rfl;have h2:=hf 2 f2 rfl;have h3:=hf 3 f3 rfl;rw [t0,o0,c2] at h0;rw [t1,o1,c4] at h1;rw [t2,o2,c3] at h2;rw [t3,o3,c27] at h3;rw [c29] at hl;obtain⟨a0,a1,a2,rs,rfl⟩:=three_then (n:=16) hl;obtain⟨v0,e0,d0,w0⟩:=DataW.trod_int Tryz.underlying2 h0;obtain⟨v1,e1,d1⟩:=DataW.trod_bool Tryz.underlying4 h1;obtain⟨v2,e2,d2,w2⟩:=DataW.trod_int Tryz.underlying3 h2;obtain⟨ms,e3,hms,hme,d3⟩:=mems_open h3;have hrl:rs.length=16:=by simpa using hl
 simp at e0 e1 e2 d0 d1 d2 d3;have e3':rs=QP ms:=by
  have:(a0::a1::a2::rs).drop 3=rs:=rfl;rw [this,List.take_of_length_le (by omega)] at e3;exact e3
 subst e0 e1 e2 e3';refine⟨⟨v0,v1,v2,ms⟩,rfl,⟨bounds_i64 w0,bounds_i64 w2,hms,hme⟩,?_⟩;rw [ex];show DataW.agg _=_;simp [d0,d1,d2,d3,vwD]
theorem global0 : Tryz.prog.globalNamed "millpond/view.first" = some 0 := by kernel_rfl
theorem global0t:(Tryz.prog.globals[0]?).map (·.type)=some 29:=by kernel_rfl
theorem memD_inj {H:Type} :∀ {a b:List (Bool×Int)},(a.map (memD (H:=H)))=b.map memD→a=b:=by
 intro a
 induction a with
 | nil=>intro b h;cases b with
  | nil=>rfl
  | cons y b=>simp at h
 | cons x a ih=>
  intro b h;cases b with
  | nil=>simp at h
  | cons y b=>
   simp only [List.map_cons,List.cons.injEq] at h;obtain⟨h1,h2⟩:=h;simp only [memD,DataW.agg.injEq,List.cons.injEq,DataW.lit.injEq,Lit.bool.injEq,Lit.int.injEq,true_and,and_true] at h1;rw [ih h2,Prod.ext h1.1 h1.2]
theorem first_of {W : World} (h : laidMetH Tryz.prog [("millpond/view.first", Rows.laid_millpond_view_first)] W) : First W := by
 rw [MakeChecks.laidMetH_plain _ _ _ (by kernel_rfl)] at h;obtain⟨ps,⟨g,t,cs,fuel,p,q,hg,ht,hv,hd,_,_⟩,_,_⟩:=h;obtain rfl:0=g:=Option.some.inj (global0.symm.trans hg);obtain rfl:29=t:=Option.some.inj (global0t.symm.trans ht);obtain⟨V,e,_,hx⟩:=vw_cells hd;have hV:V=fv:=by
   have h1:vwD V=vwD (H:=Unit) fv:=hx.symm;simp only [vwD,DataW.agg.injEq,List.cons.injEq,DataW.lit.injEq,Lit.bool.injEq,Lit.int.injEq,true_and,and_true] at h1;obtain⟨h2,h3,h4,h5⟩:=h1;have:=memD_inj h5;cases V
   simp_all [fv]
 subst hV;unfold World.var? at hv;rw [global0] at hv;simp only [Option.bind_some] at hv;split at hv
 · rename_i cs' t p' hh;obtain rfl:=Option.some.inj hv;refine⟨fun i v hi=> ?_,lt_of_block hh⟩;rw [Nat.zero_add,cell_of_block hh,← Array.getElem?_toList,e];exact hi
 · cases hv
open Go.ChangeShapes Go.WideShapes Go.ChangeAt Go.RowKit Go.Joins Go.Deep
theorem array5 {α:Type} {cs:Array α} (h:cs.size=5):∃c0 c1 c2 c3 c4,cs= #[c0,c1,c2,c3,c4]:=by
 obtain⟨l⟩:=cs
 match l,h with
 | [c0,c1,c2,c3,c4],_=>exact ⟨c0,c1,c2,c3,c4,rfl⟩
section
variable {H:Type} {enc:TypeId×Value→H} {P:Program} {w:World} {base:Nat} {spare:TypeId→Bool} {held:Bool}
theorem trod_struct5 {t:TypeId} {f0 f1 f2 f3 f4:Field} {fuel:Nat} {cs:List Value} {x:DataW H×List MemPlace} (ht:P.underlying t=some (.struct #[f0,f1,f2,f3,f4])) (h:DataW.trod enc P w base spare held fuel t cs=some x):
  ∃y0 y1 y2 y3 y4 n,DataW.trod enc P w base spare held n f0.type ((cs.drop f0.offset).take (P.cellsOf f0.type))=some y0∧
   DataW.trod enc P w base spare held n f1.type ((cs.drop f1.offset).take (P.cellsOf f1.type))=some y1∧DataW.trod enc P w base spare held n f2.type ((cs.drop f2.offset).take (P.cellsOf f2.type))=some y2∧
   DataW.trod enc P w base spare held n f3.type ((cs.drop f3.offset).take (P.cellsOf f3.type))=some y3∧DataW.trod enc P w base spare held n f4.type ((cs.drop f4.offset).take (P.cellsOf f4.type))=some y4:=by
 obtain⟨xs,n,_,rfl,hl,hlen,hf⟩:=DataW.trod_struct ht h
 match xs,hlen with
 | [y0,y1,y2,y3,y4],_=>exact ⟨y0,y1,y2,y3,y4,n,by simpa using hf 0 f0 rfl,by simpa using hf 1 f1 rfl,by simpa using hf 2 f2 rfl,by simpa using hf 3 f3 rfl,by simpa using hf 4 f4 rfl⟩
theorem open_agg5 {r:Reach} {b0:Nat} {t:TypeId} {f0 f1 f2 f3 f4:Field} {v:Value} {d:DataW H} {p:List MemPlace} (hs:P.underlying t=some (.struct #[f0,f1,f2,f3,f4])) (hone:oneCellFields P #[f0,f1,f2,f3,f4]=true) (hC:P.cellsOf t=5)
  (hv:Value.okWide P w r b0 t v) (h:DataW.Trod enc P w base spare held t v d p):
  ∃(v0 v1 v2 v3 v4:Value) (y0 y1 y2 y3 y4:DataW H×List MemPlace) (n:Nat),v= .agg #[v0,v1,v2,v3,v4]∧
    DataW.trod enc P w base spare held n f0.type [v0]=some y0∧DataW.trod enc P w base spare held n f1.type [v1]=some y1∧DataW.trod enc P w base spare held n f2.type [v2]=some y2∧DataW.trod enc P w base spare held n f3.type [v3]=some y3∧DataW.trod enc P w base spare held n f4.type [v4]=some y4:=by
 obtain⟨cs,rfl,hsz⟩:=okWide_struct hs hv;obtain⟨c0,c1,c2,c3,c4,rfl⟩:=array5 (hsz.trans hC);obtain⟨fuel,hf⟩:=h;obtain⟨y0,y1,y2,y3,y4,n,h0,h1,h2,h3,h4⟩:=trod_struct5 hs hf;obtain⟨o0,k0⟩:=hone_of hone 0 f0 rfl;obtain⟨o1,k1⟩:=hone_of hone 1 f1 rfl;obtain⟨o2,k2⟩:=hone_of hone 2 f2 rfl;obtain⟨o3,k3⟩:=hone_of hone 3 f3 rfl;obtain⟨o4,k4⟩:=hone_of hone 4 f4 rfl;exact⟨c0,c1,c2,c3,c4,y0,y1,y2,y3,y4,n,rfl,by simpa [Value.cells,o0,k0] using h0,by simpa [Value.cells,o1,k1] using h1,by simpa [Value.cells,o2,k2] using h2,by simpa [Value.cells,o3,k3] using h3,by simpa [Value.cells,o4,k4] using h4⟩
end
set_option maxRecDepth 100000 in
theorem job_open {H:Type} {enc:TypeId×Value→H} {W:World} {b0:Nat} {r:Reach} {v:Value} {d:DataW H} {p:List MemPlace}
  (hv:Value.okWide Tryz.prog W r b0 23 v) (h:DataW.Trod enc Tryz.prog W 0 (fun _=>true) true 23 v d p):∃j:Ar.Job,v=Qd (Ar.Qf j):=by
 obtain⟨v0,v1,v2,v3,v4,y0,y1,y2,y3,y4,k,rfl,h0,h1,h2,h3,h4⟩:=open_agg5 Tryz.underlying23 (by kernel_rfl) (by kernel_rfl) hv h;obtain⟨a,e0,_,_⟩:=DataW.trod_int Tryz.underlying3 h0;obtain⟨b,e1,_,_⟩:=DataW.trod_int Tryz.underlying3 h1;obtain⟨c,e2,_,_⟩:=DataW.trod_int Tryz.underlying3 h2;obtain⟨d,e3,_,_⟩:=DataW.trod_int Tryz.underlying3 h3;obtain⟨e,e4,_,_⟩:=DataW.trod_int Tryz.underlying3 h4;simp only [List.cons.injEq,and_true] at e0 e1 e2 e3 e4;subst e0 e1 e2 e3 e4;exact⟨⟨a,b,c,d,e⟩,rfl⟩
theorem spot_none {w:World} {a:Addr} {v:Value} (h:w.cell? a=some v):a=⟨a.block,a.off,none⟩:=by
 have:a.spot=none:=by
  unfold World.cell? at h;split at h
  · cases hs:a.spot with
    | none=>rfl
    | some s=>simp [hs] at h
  · cases h
 cases a;simp_all
theorem rows_open {α:Type} [Inhabited α] (C:α→List Value) (Ok:α→Prop) (m T E:Nat) (hT:Tryz.prog.underlying T=some (.slice E)) (hE:Tryz.prog.cellsOf E=m) (h0:∀x,Ok x→∃u,(C x)[0]?=some u) {H:Type} {enc:TypeId×Value→H} {W:World} (hcells:∀(fuel:Nat) (cs:List Value) (x:DataW H×List MemPlace),DataW.trod enc Tryz.prog W 0 (fun _=>true) true fuel E cs=some x→∃q,cs=C q∧Ok q) {fuel:Nat} {v:Value} {x:DataW H×List MemPlace}
   (h:DataW.trod enc Tryz.prog W 0 (fun _=>true) true fuel T [v]=some x):
   ∃(ao:Option Addr) (c:Nat) (l:List α),v= .slice ao l.length c∧(ao=none→l= []∧c=0)∧RowS C m W ao l∧(∀r∈l,Ok r):=by
 rcases open_slice hT h with ⟨hcs,hx⟩ | ⟨a,len,cap,m',n,D,Pl,hcs,_,hl,_,hm,hx,hel⟩
 · cases hcs
   exact⟨none,0,[],rfl,fun _=>⟨rfl,rfl⟩,fun i x hx=>(by simp at hx),fun x hx=>(by cases hx)⟩
 · cases hcs
   simp only [if_true] at hm;have hch:∀i,i<len→∃q:α,(∀c u,(C q)[c]?=some u→W.cell? (a.add (i*m+c))=some u)∧Ok q:=by
     intro i hi;obtain⟨cs',h1,h2⟩:=hel i (by omega);rw [hE] at h1;obtain⟨_,hlen,hcell⟩:=World.cells?_some h1;obtain⟨q,rfl,hq⟩:=hcells _ _ _ h2;refine⟨q,?_,hq⟩;intro c u hu;have hc:c<m:=by have:=(List.getElem?_eq_some_iff.1 hu).1;omega
     have:=hcell c hc;rw [add_add] at this;rw [this];exact hu
   obtain⟨X,hX⟩:=choose_lt hch;refine⟨some a,cap,(List.range len).map X,by simp,(fun h=>by cases h),?_,?_⟩
   · intro i x hi;have hil:i<len:=by have:=(List.getElem?_eq_some_iff.1 hi).1;simpa using this
     obtain rfl:X i=x:=by simpa [hil] using hi
     obtain⟨u0,hu0⟩:=h0 _ (hX 0 (by omega)).2;have h0:=(hX 0 (by omega)).1 0 u0 hu0;rw [Nat.zero_mul] at h0;have ha:=spot_none (show W.cell? a=some _ from h0);refine⟨a.block,a.off,by rw [← ha],fun c u hu=> ?_⟩;have:=(hX i hil).1 c u hu;rw [ha,Addr.add_lit,← Nat.add_assoc] at this;exact this
   · intro x hx;simp only [List.mem_map,List.mem_range] at hx;obtain⟨i,hi,rfl⟩:=hx;exact(hX i hi).2
theorem fields38':∃f0 f1 f2 f3 f4 f5:Field,Tryz.prog.underlying 38=some (.struct #[f0,f1,f2,f3,f4,f5])∧(f0.type=3∧f0.offset=0)∧(f1.type=3∧f1.offset=1)∧(f2.type=2∧f2.offset=2)∧(f3.type=3∧f3.offset=3)∧(f4.type=2∧f4.offset=4)∧f5.type=2∧f5.offset=5:=⟨_,_,_,_,_,_,Tryz.underlying38,⟨rfl,rfl⟩,⟨rfl,rfl⟩,⟨rfl,rfl⟩,⟨rfl,rfl⟩,⟨rfl,rfl⟩,rfl,rfl⟩
theorem six_of {α:Type} {l:List α} (h:l.length=6):∃a b c d e f,l= [a,b,c,d,e,f]:=by
 match l,h with
 | [a,b,c,d,e,f],_=>exact ⟨a,b,c,d,e,f,rfl⟩
instance : Inhabited S6:=⟨⟨0,0,0,0,0,0⟩⟩
set_option maxRecDepth 100000 in
theorem s6_cells {H:Type} {enc:TypeId×Value→H} {W:World} (fuel:Nat) (cs:List Value) (x:DataW H×List MemPlace) (h:DataW.trod enc Tryz.prog W 0 (fun _=>true) true fuel 38 cs=some x):∃q:S6,cs=q.C∧True:=by
 obtain⟨f0,f1,f2,f3,f4,f5,hu,⟨t0,o0⟩,⟨t1,o1⟩,⟨t2,o2⟩,⟨t3,o3⟩,⟨t4,o4⟩,t5,o5⟩:=fields38';obtain⟨xs,n,_,ex,hl,hlen,hf⟩:=DataW.trod_struct hu h;obtain⟨y0,y1,y2,y3,y4,y5,rfl⟩:=six_of hlen;have c2:Tryz.prog.cellsOf 2=1:=by kernel_rfl
 have c3:Tryz.prog.cellsOf 3=1:=by kernel_rfl
 have c38:Tryz.prog.cellsOf 38=6:=by kernel_rfl
 have h0:=hf 0 f0 rfl;have h1:=hf 1 f1 rfl;have h2:=hf 2 f2 rfl;have h3:=hf 3 f3 rfl;have h4:=hf 4 f4 rfl;have h5:=hf 5 f5 rfl;rw [t0,o0,c3] at h0;rw [t1,o1,c3] at h1;rw [t2,o2,c2] at h2;rw [t3,o3,c3] at h3;rw [t4,o4,c2] at h4;rw [t5,o5,c2] at h5;rw [c38] at hl;obtain⟨a0,a1,a2,a3,a4,a5,rfl⟩:=six_of hl;obtain⟨v0,e0,_,_⟩:=DataW.trod_int Tryz.underlying3 h0;obtain⟨v1,e1,_,_⟩:=DataW.trod_int Tryz.underlying3 h1;obtain⟨v2,e2,_,_⟩:=DataW.trod_int Tryz.underlying2 h2;obtain⟨v3,e3,_,_⟩:=DataW.trod_int Tryz.underlying3 h3;obtain⟨v4,e4,_,_⟩:=DataW.trod_int Tryz.underlying2 h4;obtain⟨v5,e5,_,_⟩:=DataW.trod_int Tryz.underlying2 h5;simp at e0 e1 e2 e3 e4 e5;subst e0 e1 e2 e3 e4 e5;exact⟨⟨v0,v1,v2,v3,v4,v5⟩,rfl,trivial⟩
theorem steps_open {H:Type} {enc:TypeId×Value→H} {W:World} {fuel:Nat} {v:Value} {x:DataW H×List MemPlace} (h:DataW.trod enc Tryz.prog W 0 (fun _=>true) true fuel 24 [v]=some x):
  ∃(ao:Option Addr) (c:Nat) (l:List S6),v= .slice ao l.length c∧RowS S6.C 6 W ao l:=by
 obtain⟨ao,c,l,h1,_,h3,_⟩:=rows_open S6.C (fun _=>True) 6 24 38 Tryz.underlying24 (by kernel_rfl) (fun x _=>⟨_,rfl⟩) s6_cells h;exact⟨ao,c,l,h1,h3⟩
end Go.Proofs.YtcfflbafclmheaaGreatDoor
