import Derived.Test.YtbigongmlpoahaaUDt
import Derived.Test.YtbigongmlpoahaaUPf
namespace Go.Proofs.Ytbigongmlpoahaa.D
set_option maxRecDepth 100000
set_option linter.unusedSimpArgs false
open Go.RowKit Go.Shelf
structure Se where
 k:Int
 g:Int
 n:Int
 m:Int
 o:Int
 p:Int
def Se.C (x:Se):List Value:= [.int .i64 x.k,.int .i64 x.g,.int .i64 x.n,.int .i64 x.m,.int .i64 x.o,.int .i64 x.p]
structure Pr where
 x:Lk
 rp:Nat
 rl:Value
def prOf (n:Int) (P:List Pr):Option Pr:=P.find? fun y=>decide (y.x.k=n)
def ptrV:Option Pr→Value
 | none=> .pointer none
 | some y=>P0 y.rp
def ptrs (P:List Pr):List Value:=(List.range 16).map fun i:Nat=>ptrV (prOf (i:Int) P)
theorem ptrs_len (P:List Pr):(ptrs P).length=16:=by simp [ptrs]
theorem ptrs_at (P:List Pr) {n:Nat} (h:n<16):(ptrs P)[n]?=some (ptrV (prOf (n:Int) P)):=by
 unfold ptrs
 rw [List.getElem?_map,List.getElem?_range h]
 rfl
theorem prOf_lk (n:Int) (P:List Pr):lkOf n (P.map Pr.x)=(prOf n P).map Pr.x:=by
 unfold lkOf prOf
 rw [List.find?_map]
 rfl
theorem prOf_some {n:Int} {P:List Pr} {y:Pr} (h:prOf n P=some y):y∈P∧y.x.k=n:=⟨List.mem_of_find?_eq_some h,by simpa using List.find?_some h⟩
def setPr (n:Int) (ln rl:Value) (r:Lo×List Wi×List Od) (P:List Pr):List Pr:=P.map fun y=>if y.x.k=n then ⟨y.x.to ln r,y.rp,rl⟩ else y
theorem setPr_x (n:Int) (ln rl:Value) (r:Lo×List Wi×List Od) (P:List Pr):(setPr n ln rl r P).map Pr.x=setLk n ln r (P.map Pr.x):=by
 unfold setPr setLk
 rw [List.map_map,List.map_map]
 refine List.map_congr_left fun y _=> ?_
 simp only [Function.comp]
 split <;> rfl
theorem setPr_of (n i:Int) (ln rl:Value) (r:Lo×List Wi×List Od) (P:List Pr):ptrV (prOf i (setPr n ln rl r P))=ptrV (prOf i P):=by
 unfold prOf setPr
 rw [List.find?_map]
 have e:((fun y:Pr=>decide (y.x.k=i))∘fun y:Pr=>if y.x.k=n then (⟨y.x.to ln r,y.rp,rl⟩:Pr) else y)=fun y:Pr=>decide (y.x.k=i):=by
   funext y
   simp only [Function.comp]
   split <;> rfl
 rw [e]
 cases List.find? (fun y:Pr=>decide (y.x.k=i)) P with
 | none=>rfl
 | some y=>show ptrV (some (if y.x.k=n then _ else y))=_;split <;> rfl
theorem setPr_ptrs (n:Int) (ln rl:Value) (r:Lo×List Wi×List Od) (P:List Pr):ptrs (setPr n ln rl r P)=ptrs P:=by
 unfold ptrs
 refine List.map_congr_left fun i _=> ?_
 exact setPr_of n i ln rl r P
structure Wd (A:Nat) (W:World) (wb b mb:Nat) (P:List Pr):Prop where
 wbk:Blk W wb 46 (P0 b::ptrs P)
 dg:Dg A W b mb (P.map Pr.x)
 rk:∀y∈P,Blk W y.rp 80 (y.x.s.abs.C y.rl)∧Ws W y.rl y.x.q∧Jv y.x.s
 rp:P.Pairwise fun y z=>y.rp≠z.rp∧∀i,y.rl.ownBlock=some i→z.rl.ownBlock≠some i
 ax:∀y∈P,∀z∈P,∀i,y.x.ln.ownBlock=some i→z.rl.ownBlock≠some i
theorem off_cells {w:World} {p T0 k T:Nat} {us0:List Value} {ln:Value} {q:List Wi} {cs:Array Value} {z:Nat×Nat} (hB:Blk w p T0 us0) (hR:Ws w ln q) (hk:w.heap[k]?=some (.cells cs T z)) (h1:T≠T0) (h2:T≠38):k∉p::spare ln:=by
 intro hm
 rcases List.mem_cons.1 hm with rfl | hm
 · unfold Blk at hB
   rw [hB] at hk
   cases hk
   exact h1 rfl
 · obtain⟨cs',hc⟩:=hR.block k (spare_own hm)
   rw [hc] at hk
   cases hk
   exact h2 rfl
theorem off_map {w:World} {p T0 k:Nat} {us0:List Value} {ln:Value} {q:List Wi} {M:List En} (hB:Blk w p T0 us0) (hR:Ws w ln q) (hM:MapAt w k M):k∉p::spare ln:=by
 intro hm
 rcases List.mem_cons.1 hm with rfl | hm
 · exact map_not_cells hM hB rfl
 · obtain⟨cs',hc⟩:=hR.block k (spare_own hm)
   exact map_not_cells hM hc rfl
theorem off_row {w:World} {p T0 i:Nat} {us0:List Value} {ln:Value} {v:Value} {n z T:Nat} {xs:List Value} (hB:Blk w p T0 us0) (hv:Rw w T z v n xs) (hi:v.ownBlock=some i) (hT:T≠T0) (hs:∀j,ln.ownBlock=some j→v.ownBlock≠some j):i∉p::spare ln:=by
 intro hm
 rcases List.mem_cons.1 hm with rfl | hm
 · obtain⟨cs,hc⟩:=hv.block i hi
   unfold Blk at hB
   rw [hB] at hc
   cases hc
   exact hT rfl
 · exact hs i (spare_own hm) hi
variable {A:Nat} {w W W1 W2:World} {wb b mb:Nat} {P:List Pr} {y:Pr} {ln rl:Value} {r:Lo×List Wi×List Od}
theorem Wd.pair (h:Wd A W wb b mb P) {y z:Pr} (hy:y∈P) (hz:z∈P) (hne:y.x.k≠z.x.k):y.rp≠z.rp∧∀i,y.rl.ownBlock=some i→z.rl.ownBlock≠some i:=by
 have key:∀(L:List Pr),(L.Pairwise fun y z=>y.rp≠z.rp∧∀i,y.rl.ownBlock=some i→z.rl.ownBlock≠some i)→y∈L→z∈L→y.rp≠z.rp∧∀i,y.rl.ownBlock=some i→z.rl.ownBlock≠some i:=by
   intro L
   induction L with
   | nil=>intro _ h _;cases h
   | cons u L ih=>
     intro hp h1 h2
     obtain⟨q1,q2⟩:=List.pairwise_cons.1 hp
     rcases List.mem_cons.1 h1 with e1 | h1
     · rcases List.mem_cons.1 h2 with e2 | h2
       · rw [e1,e2] at hne;exact absurd rfl hne
       · rw [e1];exact q1 z h2
     · rcases List.mem_cons.1 h2 with e2 | h2
       · rw [e2];exact⟨fun e=>(q1 y h1).1 e.symm,fun i hi e=>(q1 y h1).2 i e hi⟩
       · exact ih q2 h1 h2
 exact key P h.rp hy hz
theorem Wd.mem (_h:Wd A W wb b mb P) (hy:y∈P):y.x∈P.map Pr.x:=List.mem_map.2 ⟨y,hy,rfl⟩
theorem Wd.injP (h:Wd A W wb b mb P):∀ {y z:Pr},y∈P→z∈P→y.x.k=z.x.k→y=z:=by
 have hn:=h.dg.nd
 clear h
 intro y z
 induction P with
 | nil=>intro h;cases h
 | cons u L ih=>
   intro h1 h2 e
   simp only [List.map_cons,List.nodup_cons] at hn
   rcases List.mem_cons.1 h1 with e1 | h1
   · rcases List.mem_cons.1 h2 with e2 | h2
     · rw [e1,e2]
     · exact absurd (List.mem_map.2 ⟨z.x,List.mem_map.2 ⟨z,h2,rfl⟩,by rw [← e,e1]⟩) hn.1
   · rcases List.mem_cons.1 h2 with e2 | h2
     · exact absurd (List.mem_map.2 ⟨y.x,List.mem_map.2 ⟨y,h1,rfl⟩,by rw [e,e2]⟩) hn.1
     · exact ih hn.2 h1 h2 e
theorem Wd.both (h:Wd A w wb b mb P) (hy:y∈P) (hD:Dg (A+1) W1 b mb (setLk y.x.k ln r (P.map Pr.x))) (hk1:Kept (y.x.p::spare y.x.ln) w W1) (hg1:Grw w y.x.ln ln)
   (hB:Blk W2 y.rp 80 (r.1.abs.C rl)) (hW:Ws W2 rl r.2.1) (hk2:Kept (y.rp::spare y.rl) W1 W2) (hg2:Grw W1 y.rl rl) (hj:Jv r.1):Wd (A+1) W2 wb b mb (setPr y.x.k ln rl r P):=by
 have hx:=h.dg.lk y.x (h.mem hy)
 have hr:=h.rk y hy
 have far1:∀z∈P,z.rp∉y.x.p::spare y.x.ln∧∀i,z.rl.ownBlock=some i→i∉y.x.p::spare y.x.ln:=fun z hz=>
   ⟨off_cells hx.blk hx.row (h.rk z hz).1 (by decide) (by decide),fun i hi=>off_row hx.blk (h.rk z hz).2.1 hi (by decide) (fun j hj e=>h.ax y hy z hz j hj e)⟩
 have hr1:Blk W1 y.rp 80 (y.x.s.abs.C y.rl):=hr.1.kept hk1 (far1 y hy).1
 have hw1:Ws W1 y.rl y.x.q:=hr.2.1.kept hk1 (far1 y hy).2
 have hlt:∀z∈P,∀i,z.rl.ownBlock=some i→i<w.heap.size:=fun z hz i hi=>(h.rk z hz).2.1.lt hi
 have hls:∀z∈P,∀i,z.x.ln.ownBlock=some i→i<w.heap.size:=fun z hz i hi=>(h.dg.lk z.x (h.mem hz)).row.lt hi
 have hs1:=hk1.size
 -- the directory,behind the document's call
 have new1:∀v∈setLk y.x.k ln r (P.map Pr.x),v.p∉y.rp::spare y.rl∧∀i,v.ln.ownBlock=some i→i∉y.rp::spare y.rl:=by
   intro v hv
   have hl:=hD.lk v hv
   refine⟨off_cells hr1 hw1 hl.blk (by decide) (by decide),fun i hi=>off_row hr1 hl.row hi (by decide) (fun j hj e=> ?_)⟩
   unfold setLk at hv
   obtain⟨u,hu,rfl⟩:=List.mem_map.1 hv
   obtain⟨z,hz,rfl⟩:=List.mem_map.1 hu
   split at e
   · rcases hg1.own j e with h9 | h9
     · exact h.ax y hy y hy j h9 hj
     · have:=hlt y hy j hj;omega
   · exact h.ax z hz y hy j e hj
 have hD2:=hD.step hk2 (off_cells hr1 hw1 hD.blk (by decide) (by decide)) (off_map hr1 hw1 hD.map) new1
 refine⟨?_,by rw [setPr_x];exact hD2,fun z hz=> ?_,?_,fun u hu z hz i hi e=> ?_⟩
 · rw [setPr_ptrs]
   exact(h.wbk.kept hk1 (off_cells hx.blk hx.row h.wbk (by decide) (by decide))).kept hk2 (off_cells hr1 hw1 (h.wbk.kept hk1 (off_cells hx.blk hx.row h.wbk (by decide) (by decide))) (by decide) (by decide))
 · unfold setPr at hz
   obtain⟨u,hu,rfl⟩:=List.mem_map.1 hz
   split
   · exact⟨by rename_i e;obtain rfl:=h.injP hu hy e;exact hB,hW,hj⟩
   · rename_i e
     have hp:=h.pair hu hy e
     have hu3:=h.rk u hu
     refine⟨(hu3.1.kept hk1 (far1 u hu).1).kept hk2 ?_,(hu3.2.1.kept hk1 (far1 u hu).2).kept hk2 ?_,hu3.2.2⟩
     · intro hm
       rcases List.mem_cons.1 hm with e2 | hm
       · exact hp.1 e2
       · exact Rw.ne hr.2.1 hu3.1 (by decide) _ (spare_own hm) (by simp)
     · intro i hi
       exact off_row hr1 (hu3.2.1.kept hk1 (far1 u hu).2) hi (by decide) (fun j hj e2=>hp.2 j e2 hj)
 · unfold setPr
   rw [List.pairwise_map]
   refine h.rp.imp_of_mem ?_
   intro u z hu hz huz
   by_cases e1:u.x.k=y.x.k
   · obtain rfl:=h.injP hu hy e1
     by_cases e2:z.x.k=u.x.k
     · obtain rfl:=h.injP hz hu e2
       exact absurd rfl huz.1
     · rw [if_pos rfl,if_neg e2]
       refine⟨huz.1,fun i hi e=> ?_⟩
       rcases hg2.own i hi with h2 | h2
       · exact huz.2 i h2 e
       · have:=hlt z hz i e;omega
   · by_cases e2:z.x.k=y.x.k
     · obtain rfl:=h.injP hz hy e2
       rw [if_neg e1,if_pos rfl]
       refine⟨huz.1,fun i hi e=> ?_⟩
       rcases hg2.own i e with h2 | h2
       · exact huz.2 i hi h2
       · have:=hlt u hu i hi;omega
     · rw [if_neg e1,if_neg e2]
       exact huz
 · unfold setPr at hu hz
   obtain⟨u',hu',rfl⟩:=List.mem_map.1 hu
   obtain⟨z',hz',rfl⟩:=List.mem_map.1 hz
   have k1:(if u'.x.k=y.x.k then (⟨u'.x.to ln r,u'.rp,rl⟩:Pr) else u').x.ln.ownBlock=some i→(∃u∈P,u.x.ln.ownBlock=some i)∨(w.heap.size≤i∧i<W1.heap.size):=by
     intro h1
     split at h1
     · rcases hg1.own i h1 with h9 | h9
       · exact .inl ⟨y,hy,h9⟩
       · refine .inr ⟨h9,?_⟩
         have hin:y.x.to ln r∈setLk y.x.k ln r (P.map Pr.x):=by
           unfold setLk
           exact List.mem_map.2 ⟨y.x,h.mem hy,by rw [if_pos rfl]⟩
         exact(hD.lk _ hin).row.lt h1
     · exact .inl ⟨u',hu',h1⟩
   have k2:(if z'.x.k=y.x.k then (⟨z'.x.to ln r,z'.rp,rl⟩:Pr) else z').rl.ownBlock=some i→(∃z∈P,z.rl.ownBlock=some i)∨W1.heap.size≤i:=by
     intro h1
     split at h1
     · rcases hg2.own i h1 with h9 | h9
       · exact .inl ⟨y,hy,h9⟩
       · exact .inr h9
     · exact .inl ⟨z',hz',h1⟩
   rcases k1 hi with ⟨u0,hu0,q1⟩ | ⟨q1,q1'⟩
   · rcases k2 e with ⟨z0,hz0,q2⟩ | q2
     · exact h.ax u0 hu0 z0 hz0 i q1 q2
     · have:=hls u0 hu0 i q1;omega
   · rcases k2 e with ⟨z0,hz0,q2⟩ | q2
     · have:=hlt z0 hz0 i q2;omega
     · omega
theorem Wd.step0 (h:Wd A w wb b mb P) (hk:Kept [] w W):Wd A W wb b mb P:=
 ⟨h.wbk.kept hk (by simp),h.dg.step0 hk,fun y hy=>⟨(h.rk y hy).1.kept hk (by simp),(h.rk y hy).2.1.kept hk (by simp),(h.rk y hy).2.2⟩,h.rp,h.ax⟩
theorem Wd.mono {B:Nat} (h:Wd A w wb b mb P) (hB:A≤B):Wd B w wb b mb P:=
 ⟨h.wbk,⟨h.dg.blk,h.dg.map,fun x hx=>⟨(h.dg.lk x hx).blk,(h.dg.lk x hx).row,(h.dg.lk x hx).gd.mono hB⟩,h.dg.may,h.dg.nd,h.dg.ap⟩,h.rk,h.rp,h.ax⟩
theorem Wd.rs (h:Wd A w wb b mb P) (hA:A≤700) (hy:y∈P):Rs w y.rp y.rl y.x.s.abs y.x.q:=by
 have g:=(h.dg.lk y.x (h.mem hy)).gd
 have h1:=g.op1
 have h2:=g.len
 have hok:y.x.s.abs.Ok:=⟨g.ok.ex,g.ok.ow,by show -1≤(if _ then _ else (-1:Int))∧(if _ then _ else (-1:Int))<8;split;exact g.ok.su;omega,g.ok.hn⟩
 exact⟨(h.rk y hy).1,(h.rk y hy).2.1,hok,g.all,g.op0,by show y.x.s.op+_≤_;omega,by omega⟩
end Go.Proofs.Ytbigongmlpoahaa.D
