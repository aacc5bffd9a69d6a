import Derived.Test.YtbigongmlpoahaaUEe
namespace Go.Proofs.Ytbigongmlpoahaa.D
set_option maxRecDepth 100000
set_option linter.unusedSimpArgs false
open Go.RowKit Go.Shelf
def stT (P:List Pr):List (Int×Lo×List Wi):=P.map fun y=>(y.x.k,y.x.s,y.x.q)
def stepT (x:Se) (T:List (Int×Lo×List Wi)):List (Int×Lo×List Wi):=T.map fun t=>if t.1=x.g then (t.1,(doP x t.2.1 t.2.2).1,(doP x t.2.1 t.2.2).2.1) else t
def runT (X:List Se) (T:List (Int×Lo×List Wi)):List (Int×Lo×List Wi):=X.foldl (fun T x=>stepT x T) T
theorem runT_succ {X:List Se} {j:Nat} {x:Se} (h:X[j]?=some x) (T:List (Int×Lo×List Wi)):runT (X.take (j+1)) T=stepT x (runT (X.take j) T):=by
 rw [List.take_add_one,h]
 unfold runT
 rw [List.foldl_append]
 rfl
def newT (L:List Int):List (Int×Lo×List Wi):=L.map fun n=>(n,lo0,[])
variable {A:Nat} {w w0 W W':World} {wb b mb:Nat} {P P':List Pr} {x:Se} {T:List (Int×Lo×List Wi)} {L:List Int}
theorem stT_new (hk:P.map (fun y=>y.x.k)=L) (hs:∀y∈P,y.x.s=lo0∧y.x.q= []):stT P=newT L:=by
 unfold stT newT
 rw [← hk,List.map_map]
 refine List.map_congr_left fun y hy=> ?_
 rw [(hs y hy).1,(hs y hy).2]
 rfl
theorem Nx.st (h:Nx x w W P P') (hw:Wd A w wb b mb P):stT P'=stepT x (stT P):=by
 unfold stT stepT
 rw [List.map_map]
 rcases h with ⟨rfl,_,h3⟩ | ⟨y,ln,rl,h1,rfl,_⟩
 · refine List.map_congr_left fun z hz=> ?_
   simp only [Function.comp]
   split
   · rename_i e
     cases hp:prOf x.g P' with
     | none=>
       unfold prOf at hp
       have:=List.find?_eq_none.1 hp z hz
       simp [e] at this
     | some y=>
       have hy:=prOf_some hp
       have hyz:=hw.injP hy.1 hz (by rw [hy.2,e])
       have h9:=h3 y hp
       rw [hyz] at h9
       rw [h9]
   · rfl
 · unfold setPr
   rw [List.map_map]
   refine List.map_congr_left fun z hz=> ?_
   have hy:=prOf_some h1
   simp only [Function.comp]
   by_cases e:z.x.k=x.g
   · have hyz:=hw.injP hy.1 hz (by rw [hy.2,e])
     rw [if_pos e,if_pos e,← hyz]
     rfl
   · rw [if_neg e,if_neg e]
structure Lw (w0 W:World) (A wb b mb:Nat) (P:List Pr) (T:List (Int×Lo×List Wi)):Prop where
 wd:Wd A W wb b mb P
 ow:Ow w0.heap.size wb b mb P
 k:Kept [] w0 W
 t:stT P=T
theorem Lw.step0 (h:Lw w0 W A wb b mb P T) (hk:Kept [] W W'):Lw w0 W' A wb b mb P T:=⟨h.wd.step0 hk,h.ow,h.k.trans hk,h.t⟩
theorem Lw.does (h:Lw w0 W A wb b mb P T) {e:Ending} (hd:Dn A x W wb b mb P e W'):e= .returned (.bool true)∧∃P',Lw w0 W' (A+1) wb b mb P' (stepT x T):=by
 obtain⟨rfl,P',hW,hN⟩:=hd
 have hs:=hN.st h.wd
 have hsz:=h.k.size
 refine⟨rfl,P',hW,?_,?_,by rw [hs,h.t]⟩
 · rcases hN with ⟨rfl,_,_⟩ | ⟨y,ln,rl,h1,rfl,_,h4,h5⟩
   · exact h.ow
   · refine⟨h.ow.wb,h.ow.b,h.ow.mb,fun z hz=> ?_⟩
     unfold setPr at hz
     obtain⟨u,hu,rfl⟩:=List.mem_map.1 hz
     have ho:=h.ow.p u hu
     have hoy:=h.ow.p y (prOf_some h1).1
     split
     · refine⟨ho.1,ho.2.1,fun i hi=> ?_,fun i hi=> ?_⟩
       · rcases h4.own i hi with h9 | h9
         · exact hoy.2.2.1 i h9
         · omega
       · rcases h5.own i hi with h9 | h9
         · exact hoy.2.2.2 i h9
         · omega
     · exact ho
 · rcases hN with ⟨_,hk,_⟩ | ⟨y,ln,rl,h1,_,hk,_,_⟩
   · exact h.k.trans hk
   · refine h.k.fresh hk (fun i hi hl=> ?_)
     have ho:=h.ow.p y (prOf_some h1).1
     rcases List.mem_append.1 hi with hi | hi
     · rcases List.mem_cons.1 hi with rfl | hi
       · have:=ho.1;omega
       · have:=ho.2.2.1 i (spare_own hi);omega
     · rcases List.mem_cons.1 hi with rfl | hi
       · have:=ho.2.1;omega
       · have:=ho.2.2.2 i (spare_own hi);omega
theorem lkOf_of {X:List Lk} (hn:(X.map Lk.k).Nodup) {x:Lk} (hx:x∈X):lkOf x.k X=some x:=by
 cases h:lkOf x.k X with
 | none=>
   have:=List.find?_eq_none.1 h x hx
   simp at this
 | some y=>
   have hy:=lkOf_some h
   rw [nodup_uniq hn hy.1 hx hy.2]
end Go.Proofs.Ytbigongmlpoahaa.D
namespace Go.Proofs.Ytbigongmlpoahaa.D
set_option maxRecDepth 100000
set_option linter.unusedSimpArgs false
open Go.RowKit Go.Shelf
variable {A:Nat} {w w0 w1 W W':World} {wb xb b mb b2 mb2:Nat} {P:List Pr} {C:List Lk}
end Go.Proofs.Ytbigongmlpoahaa.D
