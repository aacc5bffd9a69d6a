import Derived.Test.YtbigongmlpoahaaVEf
namespace Go.Proofs.Ytbigongmlpoahaa.D
set_option maxRecDepth 100000
set_option linter.unusedSimpArgs false
open Go.RowKit Go.Shelf
def pick (P:List Pr) (c:Lk):Pr:=match prOf c.k P with
 | some y=>⟨c,y.rp,y.rl⟩
 | none=>⟨c,0,.slice none 0 0⟩
theorem pick_x (P:List Pr) (c:Lk):(pick P c).x=c:=by unfold pick;split <;> rfl
theorem pick_some {P:List Pr} {c:Lk} {y:Pr} (h:prOf c.k P=some y):pick P c=⟨c,y.rp,y.rl⟩:=by unfold pick;rw [h]
variable {A:Nat} {w w0 w1 W W':World} {wb xb b mb b2 mb2:Nat} {P:List Pr} {C:List Lk}
structure Cq (w1:World) (P:List Pr) (C:List Lk):Prop where
 all:∀c∈C,w1.heap.size≤c.p∧∃y∈P,c.k=y.x.k∧c.s=y.x.s∧c.q=y.x.q∧c.ln.ownBlock=y.x.ln.ownBlock∧spare c.ln= []
 has:∀y∈P,∃c,lkOf y.x.k C=some c
theorem Cp.cq {W2:World} (hw:Wd A W wb b mb P) (hc:Cp w1 W2 A mb2 (P.map Pr.x) (rise (P.map Pr.x)).length C):Cq w1 P C:=by
 refine⟨fun c hcC=> ?_,fun y hy=>(alike_copy hw.dg hc).2.1 y.x (hw.mem hy)⟩
 obtain⟨_,h2,x,hx,e1,e2,e3,e4,e5⟩:=hc.lk c hcC
 obtain⟨y,hy,rfl⟩:=List.mem_map.1 hx
 exact⟨h2,y,hy,e1,e2,e3,e4,e5⟩
theorem Cq.pk (hw:Wd A W wb b mb P) (h:Cq w1 P C) {c:Lk} (hc:c∈C):∃y∈P,pick P c=⟨c,y.rp,y.rl⟩∧c.k=y.x.k∧c.s=y.x.s∧c.q=y.x.q∧c.ln.ownBlock=y.x.ln.ownBlock∧spare c.ln= []∧w1.heap.size≤c.p:=by
 obtain⟨h0,y,hy,e1,e2,e3,e4,e5⟩:=h.all c hc
 have hp:prOf c.k P=some y:=by
   cases hq:prOf c.k P with
   | none=>
     unfold prOf at hq
     have:=List.find?_eq_none.1 hq y hy
     simp [e1] at this
   | some z=>
     have hz:=prOf_some hq
     rw [hw.injP hz.1 hy (by rw [hz.2,e1])]
 exact⟨y,hy,pick_some hp,e1,e2,e3,e4,e5,h0⟩
theorem pick_ptrs (hw:Wd A W wb b mb P) (h:Cq w1 P C):ptrs (C.map (pick P))=ptrs P:=by
 unfold ptrs
 refine List.map_congr_left fun i _=> ?_
 have e:prOf (i:Int) (C.map (pick P))=(lkOf (i:Int) C).map (pick P):=by
   unfold prOf lkOf
   rw [List.find?_map]
   congr 1
   have:((fun y:Pr=>decide (y.x.k=(i:Int)))∘pick P)=fun x:Lk=>decide (x.k=(i:Int)):=by
     funext x
     simp only [Function.comp,pick_x]
   rw [this]
 rw [e]
 cases hc:lkOf (i:Int) C with
 | none=>
   cases hp:prOf (i:Int) P with
   | none=>rfl
   | some y=>
     have hy:=prOf_some hp
     obtain⟨c,h9⟩:=h.has y hy.1
     rw [hy.2,hc] at h9
     cases h9
 | some c=>
   have h1:=lkOf_some hc
   obtain⟨y,hy,e2,e3,_⟩:=h.pk hw h1.1
   have hp:prOf (i:Int) P=some y:=by
     cases hq:prOf (i:Int) P with
     | none=>
       unfold prOf at hq
       have:=List.find?_eq_none.1 hq y hy
       simp [← e3,h1.2] at this
     | some z=>
       have hz:=prOf_some hq
       rw [hw.injP hz.1 hy (by rw [hz.2,← e3,h1.2])]
   rw [hp]
   show ptrV (some (pick P c))=ptrV (some y)
   rw [e2]
   rfl
theorem Cq.wd (hw:Wd A W wb b mb P) (h:Cq w1 P C) (hD:Dg A W b2 mb2 C) (hB:Blk W xb 46 (P0 b2::ptrs P)):Wd A W xb b2 mb2 (C.map (pick P)):=by
 have hx:(C.map (pick P)).map Pr.x=C:=by
   rw [List.map_map]
   have:(Pr.x∘pick P)=id:=by funext c;exact pick_x P c
   rw [this,List.map_id]
 refine⟨by rw [pick_ptrs hw h];exact hB,by rw [hx];exact hD,fun y hy=> ?_,?_,fun y hy z hz i hi e=> ?_⟩
 · obtain⟨c,hc,rfl⟩:=List.mem_map.1 hy
   obtain⟨y,hy,e,_,e2,e3,_⟩:=h.pk hw hc
   have h9:=hw.rk y hy
   rw [e]
   show Blk W y.rp 80 (c.s.abs.C y.rl)∧Ws W y.rl c.q∧Jv c.s
   rw [e2,e3]
   exact h9
 · rw [List.pairwise_map]
   have hn:C.Pairwise fun a b=>a.k≠b.k:=by have:=hD.nd;unfold List.Nodup at this;rw [List.pairwise_map] at this;exact this
   refine hn.imp_of_mem ?_
   intro c d hc hd hne
   obtain⟨y,hy,e,k1,_⟩:=h.pk hw hc
   obtain⟨z,hz,e',k2,_⟩:=h.pk hw hd
   rw [e,e']
   have h9:=hw.pair (y:=y) (z:=z) hy hz (by rw [← k1,← k2];exact hne)
   exact h9
 · obtain⟨c,hc,rfl⟩:=List.mem_map.1 hy
   obtain⟨d,hd,rfl⟩:=List.mem_map.1 hz
   obtain⟨y,hy,e1,_,_,_,e2,_⟩:=h.pk hw hc
   obtain⟨z,hz,e3,_⟩:=h.pk hw hd
   rw [e3] at e
   rw [pick_x] at hi
   exact hw.ax y hy z hz i (by rw [← e2];exact hi) e
theorem Nx.far {x:Se} {A2 b3 mb3:Nat} {X:List Lk} {P2:List Pr} (hN:Nx x W W' (C.map (pick P)) P2) (hw:Wd A W wb b mb P) (h:Cq w1 P C) (hC:∀c∈C,Blk W c.p 108 (c.s.C c.ln)∧Ws W c.ln c.q) (hD:Dg A2 W b3 mb3 X) (h1:∀c∈C,∀z∈X,z.p≠c.p) (h2:∀y∈P,∀z∈X,∀i,z.ln.ownBlock=some i→y.rl.ownBlock≠some i):Dg A2 W' b3 mb3 X:=by
 rcases hN with ⟨_,hk,_⟩ | ⟨u,ln,rl,hu,_,hk,_,_⟩
 · exact hD.step0 hk
 · have hum:=(prOf_some hu).1
   obtain⟨c,hc,rfl⟩:=List.mem_map.1 hum
   obtain⟨y,hy,e,_,_,_,_,e5,_⟩:=h.pk hw hc
   rw [e] at hk
   have hk2:Kept ((c.p::spare c.ln)++(y.rp::spare y.rl)) W W':=hk
   have hcb:=hC c hc
   have hr:=hw.rk y hy
   have off:∀ {k T:Nat} {cs:Array Value} {z:Nat×Nat},W.heap[k]?=some (.cells cs T z)→T≠108→T≠38→T≠80→k∉(c.p::spare c.ln)++(y.rp::spare y.rl):=fun {k T cs z} hk t1 t2 t3 hm=>by
     rcases List.mem_append.1 hm with hm | hm
     · exact off_cells hcb.1 hcb.2 hk t1 t2 hm
     · exact off_cells hr.1 hr.2.1 hk t3 t2 hm
   refine hD.step hk2 (off hD.blk (by decide) (by decide) (by decide)) (fun hm=> ?_) (fun z hz=>⟨fun hm=> ?_,fun i hi hm=> ?_⟩)
   · rcases List.mem_append.1 hm with hm | hm
     · exact off_map hcb.1 hcb.2 hD.map hm
     · exact off_map hr.1 hr.2.1 hD.map hm
   · rcases List.mem_append.1 hm with hm | hm
     · rw [e5] at hm
       simp at hm
       exact h1 c hc z hz hm
     · exact off_cells hr.1 hr.2.1 (hD.lk z hz).blk (by decide) (by decide) hm
   · rcases List.mem_append.1 hm with hm | hm
     · rw [e5] at hm
       exact Rw.ne (hD.lk z hz).row hcb.1 (by decide) i hi hm
     · exact off_row hr.1 (hD.lk z hz).row hi (by decide) (fun j hj e9=>h2 y hy z hz j e9 hj) hm
theorem Nx.farB {x:Se} {P2:List Pr} {k T:Nat} {us:List Value} (hN:Nx x W W' (C.map (pick P)) P2) (hw:Wd A W wb b mb P) (h:Cq w1 P C) (hC:∀c∈C,Blk W c.p 108 (c.s.C c.ln)∧Ws W c.ln c.q) (hB:Blk W k T us) (t1:T≠108) (t2:T≠38) (t3:T≠80):Blk W' k T us:=by
 rcases hN with ⟨_,hk,_⟩ | ⟨u,ln,rl,hu,_,hk,_,_⟩
 · exact hB.kept hk (by simp)
 · have hum:=(prOf_some hu).1
   obtain⟨c,hc,rfl⟩:=List.mem_map.1 hum
   obtain⟨y,hy,e,_⟩:=h.pk hw hc
   rw [e] at hk
   have hk2:Kept ((c.p::spare c.ln)++(y.rp::spare y.rl)) W W':=hk
   have hcb:=hC c hc
   have hr:=hw.rk y hy
   refine hB.kept hk2 (fun hm=> ?_)
   rcases List.mem_append.1 hm with hm | hm
   · exact off_cells hcb.1 hcb.2 hB t1 t2 hm
   · exact off_cells hr.1 hr.2.1 hB t3 t2 hm
theorem build46v (w:World) (c:Nat) (p0 p1 p2 p3 p4 p5 p6 p7 p8 p9 p10 p11 p12 p13 p14 p15:Option Addr):(Instr.build 46 #[(0,P0 c),(1,aggV [.pointer p0,.pointer p1,.pointer p2,.pointer p3,.pointer p4,.pointer p5,.pointer p6,.pointer p7,.pointer p8,.pointer p9,.pointer p10,.pointer p11,.pointer p12,.pointer p13,.pointer p14,.pointer p15])]).run Try.prog w= .ok (aggV [P0 c,.pointer p0,.pointer p1,.pointer p2,.pointer p3,.pointer p4,.pointer p5,.pointer p6,.pointer p7,.pointer p8,.pointer p9,.pointer p10,.pointer p11,.pointer p12,.pointer p13,.pointer p14,.pointer p15]) w:=by kernel_rfl
def pA:Option Pr→Option Addr
 | none=>none
 | some y=>some ⟨y.rp,0,none⟩
theorem ptrV_pA (o:Option Pr):ptrV o= .pointer (pA o):=by cases o <;> rfl
theorem ptrs_16 (P:List Pr):∃p0 p1 p2 p3 p4 p5 p6 p7 p8 p9 p10 p11 p12 p13 p14 p15:Option Addr,ptrs P= [.pointer p0,.pointer p1,.pointer p2,.pointer p3,.pointer p4,.pointer p5,.pointer p6,.pointer p7,.pointer p8,.pointer p9,.pointer p10,.pointer p11,.pointer p12,.pointer p13,.pointer p14,.pointer p15]:=by
 refine⟨pA (prOf 0 P),pA (prOf 1 P),pA (prOf 2 P),pA (prOf 3 P),pA (prOf 4 P),pA (prOf 5 P),pA (prOf 6 P),pA (prOf 7 P),pA (prOf 8 P),pA (prOf 9 P),pA (prOf 10 P),pA (prOf 11 P),pA (prOf 12 P),pA (prOf 13 P),pA (prOf 14 P),pA (prOf 15 P),?_⟩
 simp only [← ptrV_pA]
 rfl
theorem build46p (w:World) (c:Nat) (P:List Pr):(Instr.build 46 #[(0,P0 c),(1,aggV (ptrs P))]).run Try.prog w= .ok (aggV (P0 c::ptrs P)) w:=by
 obtain⟨p0,p1,p2,p3,p4,p5,p6,p7,p8,p9,p10,p11,p12,p13,p14,p15,e⟩:=ptrs_16 P
 rw [e]
 exact build46v w c p0 p1 p2 p3 p4 p5 p6 p7 p8 p9 p10 p11 p12 p13 p14 p15
theorem row44:Row 44 16:=⟨_,Try.underlying44,rfl,by kernel_rfl⟩
end Go.Proofs.Ytbigongmlpoahaa.D
