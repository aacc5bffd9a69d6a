import Derived.Test.YtbigongmlpoahaaVEe
namespace Go.Proofs.Ytbigongmlpoahaa.D
set_option maxRecDepth 100000
set_option linter.unusedSimpArgs false
open Go.RowKit Go.Shelf
def stT (P:List Pr):List (Int×Lo×List Wi):=P.map fun y=>(y.x.k,y.x.s,y.x.q)
def stepT (x:Se) (T:List (Int×Lo×List Wi)):List (Int×Lo×List Wi):=T.map fun t=>if t.1=x.g then (t.1,(doP x t.2.1 t.2.2).1,(doP x t.2.1 t.2.2).2.1) else t
def runT (X:List Se) (T:List (Int×Lo×List Wi)):List (Int×Lo×List Wi):=X.foldl (fun T x=>stepT x T) T
theorem runT_succ {X:List Se} {j:Nat} {x:Se} (h:X[j]?=some x) (T:List (Int×Lo×List Wi)):runT (X.take (j+1)) T=stepT x (runT (X.take j) T):=by
 rw [List.take_add_one,h]
 unfold runT
 rw [List.foldl_append]
 rfl
def newT (L:List Int):List (Int×Lo×List Wi):=L.map fun n=>(n,lo0,[])
variable {A:Nat} {w w0 W W':World} {wb b mb:Nat} {P P':List Pr} {x:Se} {T:List (Int×Lo×List Wi)} {L:List Int}
theorem stT_new (hk:P.map (fun y=>y.x.k)=L) (hs:∀y∈P,y.x.s=lo0∧y.x.q= []):stT P=newT L:=by
 unfold stT newT
 rw [← hk,List.map_map]
 refine List.map_congr_left fun y hy=> ?_
 rw [(hs y hy).1,(hs y hy).2]
 rfl
theorem Nx.st (h:Nx x w W P P') (hw:Wd A w wb b mb P):stT P'=stepT x (stT P):=by
 unfold stT stepT
 rw [List.map_map]
 rcases h with ⟨rfl,_,h3⟩ | ⟨y,ln,rl,h1,rfl,_⟩
 · refine List.map_congr_left fun z hz=> ?_
   simp only [Function.comp]
   split
   · rename_i e
     cases hp:prOf x.g P' with
     | none=>
       unfold prOf at hp
       have:=List.find?_eq_none.1 hp z hz
       simp [e] at this
     | some y=>
       have hy:=prOf_some hp
       have hyz:=hw.injP hy.1 hz (by rw [hy.2,e])
       have h9:=h3 y hp
       rw [hyz] at h9
       rw [h9]
   · rfl
 · unfold setPr
   rw [List.map_map]
   refine List.map_congr_left fun z hz=> ?_
   have hy:=prOf_some h1
   simp only [Function.comp]
   by_cases e:z.x.k=x.g
   · have hyz:=hw.injP hy.1 hz (by rw [hy.2,e])
     rw [if_pos e,if_pos e,← hyz]
     rfl
   · rw [if_neg e,if_neg e]
structure Lw (w0 W:World) (A wb b mb:Nat) (P:List Pr) (T:List (Int×Lo×List Wi)):Prop where
 wd:Wd A W wb b mb P
 ow:Ow w0.heap.size wb b mb P
 k:Kept [] w0 W
 t:stT P=T
theorem Lw.step0 (h:Lw w0 W A wb b mb P T) (hk:Kept [] W W'):Lw w0 W' A wb b mb P T:=⟨h.wd.step0 hk,h.ow,h.k.trans hk,h.t⟩
theorem Lw.does (h:Lw w0 W A wb b mb P T) {e:Ending} (hd:Dn A x W wb b mb P e W'):e= .returned (.bool true)∧∃P',Lw w0 W' (A+1) wb b mb P' (stepT x T):=by
 obtain⟨rfl,P',hW,hN⟩:=hd
 have hs:=hN.st h.wd
 have hsz:=h.k.size
 refine⟨rfl,P',hW,?_,?_,by rw [hs,h.t]⟩
 · rcases hN with ⟨rfl,_,_⟩ | ⟨y,ln,rl,h1,rfl,_,h4,h5⟩
   · exact h.ow
   · refine⟨h.ow.wb,h.ow.b,h.ow.mb,fun z hz=> ?_⟩
     unfold setPr at hz
     obtain⟨u,hu,rfl⟩:=List.mem_map.1 hz
     have ho:=h.ow.p u hu
     have hoy:=h.ow.p y (prOf_some h1).1
     split
     · refine⟨ho.1,ho.2.1,fun i hi=> ?_,fun i hi=> ?_⟩
       · rcases h4.own i hi with h9 | h9
         · exact hoy.2.2.1 i h9
         · omega
       · rcases h5.own i hi with h9 | h9
         · exact hoy.2.2.2 i h9
         · omega
     · exact ho
 · rcases hN with ⟨_,hk,_⟩ | ⟨y,ln,rl,h1,_,hk,_,_⟩
   · exact h.k.trans hk
   · refine h.k.fresh hk (fun i hi hl=> ?_)
     have ho:=h.ow.p y (prOf_some h1).1
     rcases List.mem_append.1 hi with hi | hi
     · rcases List.mem_cons.1 hi with rfl | hi
       · have:=ho.1;omega
       · have:=ho.2.2.1 i (spare_own hi);omega
     · rcases List.mem_cons.1 hi with rfl | hi
       · have:=ho.2.1;omega
       · have:=ho.2.2.2 i (spare_own hi);omega
theorem len_le:∀ {A B:List Int},A.Nodup→(∀a∈A,a∈B)→A.length≤B.length
 | [],_,_,_=>Nat.zero_le _
 | a::A,B,hn,hs=>by
   obtain⟨h1,h2⟩:=List.nodup_cons.1 hn
   have hb:=hs a (by simp)
   have ih:=len_le (B:=B.erase a) h2 (fun c hc=>(List.mem_erase_of_ne (fun e=>h1 (by rw [← e];exact hc))).2 (hs c (by simp [hc])))
   rw [List.length_erase_of_mem hb] at ih
   have:=List.length_pos_of_mem hb
   simp only [List.length_cons]
   omega
theorem lkOf_of {X:List Lk} (hn:(X.map Lk.k).Nodup) {x:Lk} (hx:x∈X):lkOf x.k X=some x:=by
 cases h:lkOf x.k X with
 | none=>
   have:=List.find?_eq_none.1 h x hx
   simp at this
 | some y=>
   have hy:=lkOf_some h
   rw [nodup_uniq hn hy.1 hx hy.2]
theorem rise_has {X:List Lk} (hn:(X.map Lk.k).Nodup) (hm:∀x∈X,0≤x.k∧x.k<16) {x:Lk} (hx:x∈X):x∈rise X:=by
 unfold rise riseTo
 refine List.mem_filterMap.2 ⟨x.k.toNat,?_,?_⟩
 · have:=hm x hx
   rw [List.mem_range]
   omega
 · have:=hm x hx
   rw [show ((x.k.toNat:Nat):Int)=x.k by omega]
   exact lkOf_of hn hx
theorem rise_len {X:List Lk} (hn:(X.map Lk.k).Nodup) (hm:∀x∈X,0≤x.k∧x.k<16):(rise X).length=X.length:=by
 have h1:=len_le (riseK 16 X).2 (B:=X.map Lk.k) (fun a ha=>by
   obtain⟨y,hy,rfl⟩:=List.mem_map.1 ha
   exact List.mem_map_of_mem (rise_mem hy))
 have h2:=len_le hn (B:=(rise X).map Lk.k) (fun a ha=>by
   obtain⟨y,hy,rfl⟩:=List.mem_map.1 ha
   exact List.mem_map_of_mem (rise_has hn hm hy))
 simp only [List.length_map] at h1 h2
 have h3:(riseTo 16 X).length=(rise X).length:=rfl
 omega
def Alike (X Y:List Lk):Prop:=X.length=Y.length∧(∀x∈X,∃y,lkOf x.k Y=some y)∧∀x∈X,∀y,lkOf x.k Y=some y→y.s=x.s∧y.q=x.q
theorem Alike.has {X Y:List Lk} (h:Alike X Y):hasD X Y=true:=by
 unfold hasD
 rw [List.all_eq_true]
 intro x hx
 obtain⟨y,hy⟩:=h.2.1 x (rise_mem hx)
 rw [hy]
 rfl
theorem same14_y {A2 b2 mb2:Nat} {X Y:List Lk} (h:Dg A w b mb X) (k:Dg A2 w b2 mb2 Y) (ha:Alike X Y) (hA:A≤900):Calls Try.prog 14 #[P0 b,P0 b2] w fun e W=>e= .returned (.bool true)∧Kept [] w W:=by
 have h1:=same14 h k ha.1 hA (fun x hx y hy=>ha.2.2 x (rise_mem hx) y hy)
 rw [ha.has] at h1
 exact h1
theorem alike_copy {mb':Nat} {X C:List Lk} {w1 W2:World} (h:Dg A w b mb X) (hc:Cp w1 W2 A mb' X (rise X).length C):Alike X C:=by
 have hk:C.map Lk.k=(rise X).map Lk.k:=by rw [hc.ks,List.take_length]
 have hn:(C.map Lk.k).Nodup:=by rw [hk];exact(riseK 16 X).2
 refine⟨?_,fun x hx=> ?_,fun x hx y hy=> ?_⟩
 · have h9:=congrArg List.length hk
   simp only [List.length_map] at h9
   rw [h9,rise_len h.nd h.may]
 · have hm:x.k∈C.map Lk.k:=by rw [hk];exact List.mem_map_of_mem (rise_has h.nd h.may hx)
   obtain⟨c,hcC,e⟩:=List.mem_map.1 hm
   exact⟨c,by rw [← e];exact lkOf_of hn hcC⟩
 · have hy2:=lkOf_some hy
   obtain⟨_,_,x1,hx1,e1,e2,e3,_⟩:=hc.lk y hy2.1
   have:=nodup_uniq h.nd hx1 hx (by rw [← e1,hy2.2])
   rw [e2,e3,this]
   exact⟨rfl,rfl⟩
theorem alike_st {A2 wb2 b2 mb2:Nat} {Q:List Pr} {V:World} (k:Wd A2 V wb2 b2 mb2 Q) (he:stT P=stT Q):Alike (P.map Pr.x) (Q.map Pr.x):=by
 have hl:P.length=Q.length:=by have:=congrArg List.length he;simpa [stT] using this
 have get:∀x∈P.map Pr.x,∃y∈Q.map Pr.x,y.k=x.k∧y.s=x.s∧y.q=x.q:=by
   intro x hx
   obtain⟨p,hp,rfl⟩:=List.mem_map.1 hx
   have hm:(p.x.k,p.x.s,p.x.q)∈stT Q:=by rw [← he];exact List.mem_map.2 ⟨p,hp,rfl⟩
   obtain⟨q,hq,e⟩:=List.mem_map.1 hm
   simp only [Prod.mk.injEq] at e
   exact⟨q.x,List.mem_map.2 ⟨q,hq,rfl⟩,e.1,e.2.1,e.2.2⟩
 refine⟨by simp [hl],fun x hx=> ?_,fun x hx y hy=> ?_⟩
 · obtain⟨y,hy,e,_⟩:=get x hx
   exact⟨y,by rw [← e];exact lkOf_of k.dg.nd hy⟩
 · obtain⟨y1,hy1,e1,e2,e3⟩:=get x hx
   have hy2:=lkOf_some hy
   have:=nodup_uniq k.dg.nd hy1 hy2.1 (by rw [e1,hy2.2])
   rw [← this]
   exact⟨e2,e3⟩
end Go.Proofs.Ytbigongmlpoahaa.D
