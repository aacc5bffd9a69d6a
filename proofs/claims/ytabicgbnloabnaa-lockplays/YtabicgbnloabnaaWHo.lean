import Derived.Test.YtabicgbnloabnaaWHa
import Derived.Test.YtabicgbnloabnaaRows
import Derived.MakeChecks
import Derived.LaidLaws
import Derived.ProofKit
import Derived.OpenShut
import Derived.SizedLaws
import Derived.Lib.SmallJoins
import Derived.LaidMore
import Derived.Lay
import Derived.SevenTiedAt
import Derived.Stop.Joined
import Derived.Deep.CutBlock
namespace Go.Proofs.Ytabicgbnloabnaa
set_option maxRecDepth 100000
open Go.ChangeShapes Go.WideShapes Go.ChangeAt Go.RowKit Go.Joins Go.Deep
theorem spot_none {w:World} {a:Addr} {v:Value} (h:w.cell? a=some v):a=⟨a.block,a.off,none⟩:=by
 have:a.spot=none:=by
   unfold World.cell? at h
   split at h
   · cases hs:a.spot with
     | none=>rfl
     | some s=>simp [hs] at h
   · cases h
 cases a;simp_all
theorem rows_open {α:Type} [Inhabited α] (C:α→List Value) (Ok:α→Prop) (m T E:Nat) (hT:Try.prog.underlying T=some (.slice E)) (hE:Try.prog.cellsOf E=m) (h0:∀x,Ok x→∃u,(C x)[0]?=some u) {H:Type} {enc:TypeId×Value→H} {W:World} (hcells:∀(fuel:Nat) (cs:List Value) (x:DataW H×List MemPlace),DataW.trod enc Try.prog W 0 (fun _=>true) true fuel E cs=some x→∃q,cs=C q∧Ok q) {fuel:Nat} {v:Value} {x:DataW H×List MemPlace}
   (h:DataW.trod enc Try.prog W 0 (fun _=>true) true fuel T [v]=some x):
   ∃(ao:Option Addr) (c:Nat) (l:List α),v= .slice ao l.length c∧(ao=none→l= []∧c=0)∧RowS C m W ao l∧(∀r∈l,Ok r):=by
 rcases open_slice hT h with ⟨hcs,hx⟩ | ⟨a,len,cap,m',n,D,Pl,hcs,_,hl,_,hm,hx,hel⟩
 · cases hcs
   exact⟨none,0,[],rfl,fun _=>⟨rfl,rfl⟩,fun i x hx=>(by simp at hx),fun x hx=>(by cases hx)⟩
 · cases hcs
   simp only [if_true] at hm
   have hch:∀i,i<len→∃q:α,(∀c u,(C q)[c]?=some u→W.cell? (a.add (i*m+c))=some u)∧Ok q:=by
     intro i hi
     obtain⟨cs',h1,h2⟩:=hel i (by omega)
     rw [hE] at h1
     obtain⟨_,hlen,hcell⟩:=World.cells?_some h1
     obtain⟨q,rfl,hq⟩:=hcells _ _ _ h2
     refine⟨q,?_,hq⟩
     intro c u hu
     have hc:c<m:=by have:=(List.getElem?_eq_some_iff.1 hu).1;omega
     have:=hcell c hc
     rw [add_add] at this
     rw [this]
     exact hu
   obtain⟨X,hX⟩:=choose_lt hch
   refine⟨some a,cap,(List.range len).map X,by simp,(fun h=>by cases h),?_,?_⟩
   · intro i x hi
     have hil:i<len:=by have:=(List.getElem?_eq_some_iff.1 hi).1;simpa using this
     obtain rfl:X i=x:=by simpa [hil] using hi
     obtain⟨u0,hu0⟩:=h0 _ (hX 0 (by omega)).2
     have h0:=(hX 0 (by omega)).1 0 u0 hu0
     rw [Nat.zero_mul] at h0
     have ha:=spot_none (show W.cell? a=some _ from h0)
     refine⟨a.block,a.off,by rw [← ha],fun c u hu=> ?_⟩
     have:=(hX i hil).1 c u hu
     rw [ha,Addr.add_lit,← Nat.add_assoc] at this
     exact this
   · intro x hx
     simp only [List.mem_map,List.mem_range] at hx
     obtain⟨i,hi,rfl⟩:=hx
     exact(hX i hi).2
theorem own:ownKnob Try.prog.godebug=none:=by kernel_rfl
theorem laidOut:laidOutB Try.prog=true:=by kernel_rfl
theorem fields33':∃f0 f1 f2 f3 f4:Field,Try.prog.underlying 33=some (.struct #[f0,f1,f2,f3,f4])∧(f0.type=3∧f0.offset=0)∧(f1.type=3∧f1.offset=1)∧(f2.type=31∧f2.offset=2)∧(f3.type=2∧f3.offset=3)∧f4.type=2∧f4.offset=4:=⟨_,_,_,_,_,Try.underlying33,⟨rfl,rfl⟩,⟨rfl,rfl⟩,⟨rfl,rfl⟩,⟨rfl,rfl⟩,rfl,rfl⟩
theorem five_of {α:Type} {l:List α} (h:l.length=5):∃a b c d e,l= [a,b,c,d,e]:=by
 match l,h with
 | [a,b,c,d,e],_=>exact ⟨a,b,c,d,e,rfl⟩
instance : Inhabited Sp:=⟨⟨0,0,0,0,0⟩⟩
theorem sp_cells {H:Type} {enc:TypeId×Value→H} {W:World} (fuel:Nat) (cs:List Value) (x:DataW H×List MemPlace) (h:DataW.trod enc Try.prog W 0 (fun _=>true) true fuel 33 cs=some x):∃q:Sp,cs=q.C∧True:=by
 obtain⟨f0,f1,f2,f3,f4,hu,⟨t0,o0⟩,⟨t1,o1⟩,⟨t2,o2⟩,⟨t3,o3⟩,t4,o4⟩:=fields33'
 obtain⟨xs,n,_,ex,hl,hlen,hf⟩:=DataW.trod_struct hu h
 obtain⟨y0,y1,y2,y3,y4,rfl⟩:=five_of hlen
 have c2:Try.prog.cellsOf 2=1:=by kernel_rfl
 have c3:Try.prog.cellsOf 3=1:=by kernel_rfl
 have c31:Try.prog.cellsOf 31=1:=by kernel_rfl
 have c33:Try.prog.cellsOf 33=5:=by kernel_rfl
 have h0:=hf 0 f0 rfl
 have h1:=hf 1 f1 rfl
 have h2:=hf 2 f2 rfl
 have h3:=hf 3 f3 rfl
 have h4:=hf 4 f4 rfl
 rw [t0,o0,c3] at h0
 rw [t1,o1,c3] at h1
 rw [t2,o2,c31] at h2
 rw [t3,o3,c2] at h3
 rw [t4,o4,c2] at h4
 rw [c33] at hl
 obtain⟨a0,a1,a2,a3,a4,rfl⟩:=five_of hl
 obtain⟨v0,e0,_,_⟩:=DataW.trod_int Try.underlying3 h0
 obtain⟨v1,e1,_,_⟩:=DataW.trod_int Try.underlying3 h1
 obtain⟨v2,e2,_,_⟩:=DataW.trod_int Try.underlying31 h2
 obtain⟨v3,e3,_,_⟩:=DataW.trod_int Try.underlying2 h3
 obtain⟨v4,e4,_,_⟩:=DataW.trod_int Try.underlying2 h4
 simp at e0 e1 e2 e3 e4
 subst e0 e1 e2 e3 e4
 exact⟨⟨v0,v1,v2,v3,v4⟩,rfl,trivial⟩
theorem steps_open {H:Type} {enc:TypeId×Value→H} {W:World} {fuel:Nat} {v:Value} {x:DataW H×List MemPlace} (h:DataW.trod enc Try.prog W 0 (fun _=>true) true fuel 22 [v]=some x):
   ∃(ao:Option Addr) (c:Nat) (l:List Sp),v= .slice ao l.length c∧RowS Sp.C 5 W ao l:=by
 obtain⟨ao,c,l,h1,_,h3,_⟩:=rows_open Sp.C (fun _=>True) 5 22 33 Try.underlying22 (by kernel_rfl) (fun x _=>⟨_,rfl⟩) sp_cells h
 exact⟨ao,c,l,h1,h3⟩
end Go.Proofs.Ytabicgbnloabnaa
