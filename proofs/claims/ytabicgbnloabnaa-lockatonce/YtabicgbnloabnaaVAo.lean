import Derived.Test.YtabicgbnloabnaaVAh
import Derived.Test.YtabicgbnloabnaaRows
import Derived.MakeChecks
import Derived.LaidLaws
import Derived.ProofKit
import Derived.OpenShut
import Derived.SizedLaws
import Derived.Lib.SmallJoins
import Derived.LaidMore
import Derived.Lay
import Derived.SevenTiedAt
import Derived.Stop.Joined
import Derived.Deep.CutBlock
namespace Go.Proofs.Ytabicgbnloabnaa
set_option maxRecDepth 100000
open Go.ChangeShapes Go.WideShapes Go.ChangeAt Go.RowKit Go.Joins Go.Deep
theorem spot_none {w:World} {a:Addr} {v:Value} (h:w.cell? a=some v):a=⟨a.block,a.off,none⟩:=by
 have:a.spot=none:=by
   unfold World.cell? at h
   split at h
   · cases hs:a.spot with
     | none=>rfl
     | some s=>simp [hs] at h
   · cases h
 cases a;simp_all
theorem rows_open {α:Type} [Inhabited α] (C:α→List Value) (Ok:α→Prop) (m T E:Nat) (hT:Try.prog.underlying T=some (.slice E)) (hE:Try.prog.cellsOf E=m) (h0:∀x,Ok x→∃u,(C x)[0]?=some u) {H:Type} {enc:TypeId×Value→H} {W:World} (hcells:∀(fuel:Nat) (cs:List Value) (x:DataW H×List MemPlace),DataW.trod enc Try.prog W 0 (fun _=>true) true fuel E cs=some x→∃q,cs=C q∧Ok q) {fuel:Nat} {v:Value} {x:DataW H×List MemPlace}
   (h:DataW.trod enc Try.prog W 0 (fun _=>true) true fuel T [v]=some x):
   ∃(ao:Option Addr) (c:Nat) (l:List α),v= .slice ao l.length c∧(ao=none→l= []∧c=0)∧RowS C m W ao l∧(∀r∈l,Ok r):=by
 rcases open_slice hT h with ⟨hcs,hx⟩ | ⟨a,len,cap,m',n,D,Pl,hcs,_,hl,_,hm,hx,hel⟩
 · cases hcs
   exact⟨none,0,[],rfl,fun _=>⟨rfl,rfl⟩,fun i x hx=>(by simp at hx),fun x hx=>(by cases hx)⟩
 · cases hcs
   simp only [if_true] at hm
   have hch:∀i,i<len→∃q:α,(∀c u,(C q)[c]?=some u→W.cell? (a.add (i*m+c))=some u)∧Ok q:=by
     intro i hi
     obtain⟨cs',h1,h2⟩:=hel i (by omega)
     rw [hE] at h1
     obtain⟨_,hlen,hcell⟩:=World.cells?_some h1
     obtain⟨q,rfl,hq⟩:=hcells _ _ _ h2
     refine⟨q,?_,hq⟩
     intro c u hu
     have hc:c<m:=by have:=(List.getElem?_eq_some_iff.1 hu).1;omega
     have:=hcell c hc
     rw [add_add] at this
     rw [this]
     exact hu
   obtain⟨X,hX⟩:=choose_lt hch
   refine⟨some a,cap,(List.range len).map X,by simp,(fun h=>by cases h),?_,?_⟩
   · intro i x hi
     have hil:i<len:=by have:=(List.getElem?_eq_some_iff.1 hi).1;simpa using this
     obtain rfl:X i=x:=by simpa [hil] using hi
     obtain⟨u0,hu0⟩:=h0 _ (hX 0 (by omega)).2
     have h0:=(hX 0 (by omega)).1 0 u0 hu0
     rw [Nat.zero_mul] at h0
     have ha:=spot_none (show W.cell? a=some _ from h0)
     refine⟨a.block,a.off,by rw [← ha],fun c u hu=> ?_⟩
     have:=(hX i hil).1 c u hu
     rw [ha,Addr.add_lit,← Nat.add_assoc] at this
     exact this
   · intro x hx
     simp only [List.mem_map,List.mem_range] at hx
     obtain⟨i,hi,rfl⟩:=hx
     exact(hX i hi).2
theorem own:ownKnob Try.prog.godebug=none:=by kernel_rfl
theorem laidOut:laidOutB Try.prog=true:=by kernel_rfl
theorem fields57':∃f0 f1:Field,Try.prog.underlying 57=some (.struct #[f0,f1])∧(f0.type=3∧f0.offset=0)∧(f1.type=3∧f1.offset=1):=⟨_,_,rfl,⟨rfl,rfl⟩,rfl,rfl⟩
theorem two_of {α:Type} {l:List α} (h:l.length=2):∃a b,l= [a,b]:=by
 match l,h with
 | [a,b],_=>exact ⟨a,b,rfl⟩
instance instAk : Inhabited Ak := ⟨⟨0, 0⟩⟩
theorem ak_cells {H:Type} {enc:TypeId×Value→H} {W:World} (fuel:Nat) (cs:List Value) (x:DataW H×List MemPlace) (h:DataW.trod enc Try.prog W 0 (fun _=>true) true fuel 57 cs=some x):∃q:Ak,cs=q.C∧True:=by
 obtain⟨f0,f1,hu,⟨t0,o0⟩,t1,o1⟩:=fields57'
 obtain⟨xs,n,_,ex,hl,hlen,hf⟩:=DataW.trod_struct hu h
 obtain⟨y0,y1,rfl⟩:=two_of hlen
 have c3:Try.prog.cellsOf 3=1:=by kernel_rfl
 have c57:Try.prog.cellsOf 57=2:=by kernel_rfl
 have h0:=hf 0 f0 rfl
 have h1:=hf 1 f1 rfl
 rw [t0,o0,c3] at h0
 rw [t1,o1,c3] at h1
 rw [c57] at hl
 obtain⟨a0,a1,rfl⟩:=two_of hl
 obtain⟨v0,e0,_,_⟩:=DataW.trod_int Try.underlying3 h0
 obtain⟨v1,e1,_,_⟩:=DataW.trod_int Try.underlying3 h1
 simp at e0 e1
 subst e0 e1
 exact⟨⟨v0,v1⟩,rfl,trivial⟩
theorem asks_open {H:Type} {enc:TypeId×Value→H} {W:World} {fuel:Nat} {v:Value} {x:DataW H×List MemPlace} (h:DataW.trod enc Try.prog W 0 (fun _=>true) true fuel 51 [v]=some x):
   ∃(ao:Option Addr) (c:Nat) (l:List Ak),v= .slice ao l.length c∧RowS Ak.C 2 W ao l:=by
 obtain⟨ao,c,l,h1,_,h3,_⟩:=rows_open Ak.C (fun _=>True) 2 51 57 Try.underlying51 (by kernel_rfl) (fun x _=>⟨_,rfl⟩) ak_cells h
 exact⟨ao,c,l,h1,h3⟩
end Go.Proofs.Ytabicgbnloabnaa
