import Derived.Test.YtbigongmlpoahaaUPe
namespace Go.Proofs.Ytbigongmlpoahaa
set_option maxRecDepth 100000
set_option linter.unusedSimpArgs false
open Go.RowKit
variable {s:Lo} {r:Rk} {l L:List Wi}
theorem rel_sim {m c:Int} (h:Jv s) (ha:∀y∈L,y.Ok):rrelP s.abs L m c=((relP s L m c).1.abs,(relP s L m c).2.1,(relP s L m c).2.2)∧Jv (relP s L m c).1:=by
 unfold rrelP relP
 split
 rotate_left
 · exact⟨rfl,h⟩
 rename_i hm
 have hm':0≤m∧m<8:=by simpa [isN] using hm
 obtain⟨n,hn,hmn⟩:∃n:Nat,n<8∧m.toNat=n:=⟨m.toNat,by omega,rfl⟩
 rw [hmn]
 have hg:=give_jv h n
 have hc:=give_cr h.ok n
 unfold rrelN relN
 by_cases h1:(s.give n).wa n=true
 · have h1':s.wa n=true:=h1
   have hw:=(wait_iff h hn).2 h1'
   rw [if_pos (show s.abs.wt=1∧s.abs.gn n=true from hw),if_pos h1]
   have hk2:s.hk=2:=by
     by_cases e:s.hk=2
     · exact e
     · rw [h.wa e] at h1';cases h1'
   refine away_sim (r:=s.abs.rel n) hg hk2 (r2:=(s.abs.rel n).aw n) ⟨hc.x,hc.ow,?_,rfl,?_,rfl,rfl,rfl⟩ ?_ ?_ hw.1 rfl
   · show upd (upd s.shd n false) n false=(s.give n).shd
     rw [updTwo,shd_give h.ok]
   · show upd (upd s.ops n 0) n 0=upd s.ops n 0
     rw [updTwo]
   · show upd (if s.hk=2 then s.wa else no8) n false=upd s.wa n false
     rw [if_pos hk2]
   · show(if s.hk=1∨s.hk=2 then s.su else -1)=s.su
     rw [if_pos (.inr hk2)]
 · rw [if_neg (show ¬(s.abs.wt=1∧s.abs.gn n=true) from fun e=>h1 ((wait_iff h hn).1 e)),if_neg h1]
   have hss:(s.give n).sends=s.sends:=rfl
   by_cases h2:(s.give n).sends=true∧(n:Int)=s.su∧c<s.op
   · have h2w:s.wt=2:=wt_sends.2 (hss▸h2.1)
     have h12:s.hk=1∨s.hk=2:=by
       have hs:s.sends=true:=hss▸h2.1
       unfold Lo.sends at hs
       rw [busy_eq h] at hs
       rcases h.hk with ⟨e,_⟩ | e | e | e
       · simp [e] at hs
       · exact .inl e
       · exact .inr e
       · simp [e] at hs
     rw [if_pos h2,if_pos ⟨h2w,by show(if s.hk=1∨s.hk=2 then s.su else -1)=(n:Int);rw [if_pos h12];exact h2.2.1.symm,h2.2.2⟩]
     have hcu:Cr (s.give n).opUp (s.abs.rel n).opUp:=⟨hc.x,hc.ow,hc.sh,hc.pa,hc.ops,hc.hn,hc.hk,rfl⟩
     have hju:Jc (s.give n).opUp:=⟨opUp_ok hg.ok,hg.ex,hg.ow,hg.h8⟩
     unfold Lo.anew
     by_cases e1:s.hk=1
     · rw [if_pos (show(s.give n).hk=1 from e1)]
       have hw0:s.wa=no8:=h.wa (by omega)
       refine⟨on_sim _ hju hcu e1 (hg.k1 e1).1 hw0 ?_,on_jv hju e1 (hg.k1 e1).1 hw0⟩
       show(if s.hk=2 then s.wa else no8)=no8
       rw [if_neg (by omega)]
     · have e2:s.hk=2:=h12.resolve_left e1
       rw [if_neg (show ¬(s.give n).hk=1 from e1)]
       refine⟨over_sim _ hju hcu e2 (hg.k2 e2) (fun i hi=> ?_),overH_jv hju e2 (hg.k2 e2)⟩
       show(if s.hk=2 then s.wa else no8) i=false
       rw [if_pos e2];exact h.w8 i hi
   · rw [if_neg h2]
     rw [if_neg (show ¬(s.abs.wt=2∧s.abs.su=(n:Int)∧c<s.abs.op) from ?_)]
     · by_cases h3:s.hk=3∧(n:Int)=s.ow
       · rw [if_pos h3,if_pos ⟨wt_flush.2 h3.1,h3.2.symm⟩]
         have hcn:Cr ((s.give n).setPa s.hn false) ((s.abs.rel n).setPa s.hn false):=⟨hc.x,hc.ow,hc.sh,rfl,hc.ops,hc.hn,hc.hk,hc.op⟩
         have hjn:Jc ((s.give n).setPa s.hn false):=⟨setPa_ok hg.ok _ _,hg.ex,hg.ow,hg.h8⟩
         obtain⟨i1,i2⟩:=next_sim L (s.give n).needless.1 ((s.abs.rel n).setPa s.hn false) ⟨over_ok hjn.ok,hjn.ex,hjn.ow,hjn.h8⟩ (h.wa (by omega)) rfl rfl (clr_sim hcn) ha
         refine⟨?_,i2⟩
         unfold rneed more
         show((rdone ((s.abs.rel n).setPa s.hn false) L).1,(rdone ((s.abs.rel n).setPa s.hn false) L).2.1,_++(rdone ((s.abs.rel n).setPa s.hn false) L).2.2)=_
         rw [i1]
         rfl
       · rw [if_neg h3,if_neg (fun e=>h3 ⟨wt_flush.1 e.1,e.2.symm⟩)]
         exact⟨by rw [give_abs h.ok n],hg⟩
     · rintro ⟨e1,e2,e3⟩
       have hs:=wt_sends.1 e1
       have e2':(if s.hk=1∨s.hk=2 then s.su else -1)=(n:Int):=e2
       refine h2 ⟨hss.trans hs,?_,e3⟩
       split at e2'
       · exact e2'.symm
       · omega
theorem got_cr (h:Jv s) (hk:s.hk=1∨s.hk=2):Cr s.now (if s.hk=1 then s.abs.gotSh else s.abs.gotEx)∧Jc s.now:=by
 have hr:=h.ok.su
 have hx:=h.ok.ex
 have hn:=h.ok.hn
 have hsu:s.abs.su=s.su:=by show(if s.hk=1∨s.hk=2 then s.su else -1)=s.su;rw [if_pos hk]
 unfold Lo.now
 by_cases h1:s.hk=1
 · rw [if_pos h1,if_pos h1]
   obtain⟨k1,k2⟩:=h.k1 h1
   unfold Rk.gotSh Lo.nowSh
   rw [hsu]
   by_cases hc:s.su≠ -1∧s.ho s.su.toNat=true
   · have hcond:0≤s.su∧(s.abs.x=s.su∨s.abs.sh s.su.toNat=true):=by
       refine⟨by omega,?_⟩
       by_cases hx0:0≤s.ex
       · exact .inl (k2 hx0).symm
       · right
         show s.shd s.su.toNat=true
         rw [shd_neg h.ok hx0];exact hc.2
     rw [if_pos hc,if_pos hcond]
     refine⟨⟨rfl,rfl,?_,rfl,rfl,rfl,rfl,rfl⟩,⟨⟨by show(-1:Int)≤ -1∧(-1:Int)<8;omega,h.ok.ow,h.ok.su,hn⟩,fun e=>absurd e (by show ¬(0:Int)≤ -1;omega),fun e=> ?_,fun i hi=> ?_⟩⟩
     · show upd (upd s.shd s.su.toNat true) s.hn true=upd s.ho s.hn true
       congr 1
       funext i
       unfold upd
       split
       · rename_i e;rw [e];exact hc.2.symm
       · rename_i e
         by_cases hx0:0≤s.ex
         · rw [shd_pos hx0,updNo _ _ (by have:=k2 hx0;omega)]
         · rw [shd_neg h.ok hx0]
     · show upd s.ho s.hn true s.ow.toNat=true
       unfold upd
       split
       · rfl
       · exact h.ow e
     · show upd s.ho s.hn true i=false
       rw [updNo _ _ (by omega)];exact h.h8 i hi
   · have hx0:¬ 0≤s.ex:=by
       intro hx0
       apply hc
       have e1:=k2 hx0
       have e2:=(h.ex hx0).1
       have e3:=h.ow (by omega)
       refine⟨by omega,?_⟩
       rw [e1,← e2];exact e3
     have hcond:¬(0≤s.su∧(s.abs.x=s.su∨s.abs.sh s.su.toNat=true)):=by
       rintro ⟨e0,e1 | e1⟩
       · have:s.ex=s.su:=e1
         omega
       · have e2:s.shd s.su.toNat=true:=e1
         rw [shd_neg h.ok hx0] at e2
         exact hc ⟨by omega,e2⟩
     rw [if_neg hc,if_neg hcond]
     refine⟨⟨?_,rfl,?_,rfl,rfl,rfl,rfl,rfl⟩,⟨⟨by show(-1:Int)≤ -1∧(-1:Int)<8;omega,h.ok.ow,h.ok.su,hn⟩,fun e=>absurd e (by show ¬(0:Int)≤ -1;omega),fun e=> ?_,fun i hi=> ?_⟩⟩
     · show s.ex= -1
       omega
     · show upd s.shd s.hn true=upd s.ho s.hn true
       rw [shd_neg h.ok hx0]
     · show upd s.ho s.hn true s.ow.toNat=true
       unfold upd
       split
       · rfl
       · exact h.ow e
     · show upd s.ho s.hn true i=false
       rw [updNo _ _ (by omega)];exact h.h8 i hi
 · rw [if_neg h1,if_neg h1]
   have hsh:∀q:Lo,q.ho=no8→((q.put s.hn).own s.hn).shd=no8:=by
     intro q hq
     rw [shd_pos (show(0:Int)≤(s.hn:Int) by omega)]
     show upd (upd q.ho s.hn true) ((s.hn:Int)).toNat false=no8
     rw [Int.toNat_natCast,updTwo,hq]
     funext i
     unfold upd
     split <;> rfl
   have hjc:∀q:Lo,q.ho=no8→ -1≤q.su∧q.su<8→q.hn=s.hn→Jc ((q.put s.hn).own s.hn):=by
     intro q hq hq2 hq3
     refine⟨⟨by show -1≤(s.hn:Int)∧(s.hn:Int)<8;omega,by show -1≤(s.hn:Int)∧(s.hn:Int)<8;omega,hq2,by show q.hn<8;omega⟩,fun _=>⟨rfl,fun i hi=> ?_⟩,fun _=> ?_,fun i hi=> ?_⟩
     · have hi':upd q.ho s.hn true i=true:=hi
       unfold upd at hi'
       split at hi'
       · rename_i e;show(i:Int)=(s.hn:Int);rw [e]
       · rw [hq] at hi';cases hi'
     · show upd q.ho s.hn true ((s.hn:Int)).toNat=true
       rw [Int.toNat_natCast,updYes]
     · show upd q.ho s.hn true i=false
       rw [updNo _ _ (by omega),hq];rfl
   unfold Rk.gotEx Lo.nowEx
   rw [hsu]
   by_cases hc:s.su≠ -1∧s.su=s.ow
   · rw [if_pos hc,if_pos (show 0≤s.su∧s.su=s.abs.ow from⟨by omega,hc.2⟩)]
     exact⟨⟨rfl,rfl,(hsh _ rfl).symm,rfl,rfl,rfl,rfl,rfl⟩,hjc _ rfl h.ok.su rfl⟩
   · rw [if_neg hc,if_neg (show ¬(0≤s.su∧s.su=s.abs.ow) from fun e=>hc ⟨by omega,e.2⟩)]
     exact⟨⟨rfl,rfl,(hsh _ rfl).symm,rfl,rfl,rfl,rfl,rfl⟩,hjc _ rfl h.ok.su rfl⟩
theorem now_wa:s.now.wa=s.wa:=by
 unfold Lo.now Lo.nowSh Lo.nowEx
 split <;> split <;> rfl
theorem got_sim {m c:Int} (h:Jv s) (ha:∀y∈L,y.Ok):rgotP s.abs L m c=((gotP s L m c).1.abs,(gotP s L m c).2.1,(gotP s L m c).2.2)∧Jv (gotP s L m c).1:=by
 have hn:=h.ok.hn
 unfold rgotP gotP
 by_cases hc:s.sends=true∧m=(s.hn:Int)∧c=s.op
 · have h12:s.hk=1∨s.hk=2:=by
     have hs:=hc.1
     unfold Lo.sends at hs
     rw [busy_eq h] at hs
     rcases h.hk with ⟨e,_⟩ | e | e | e
     · simp [e] at hs
     · exact .inl e
     · exact .inr e
     · simp [e] at hs
   have hemp:s.wa=no8:=by
     have hs:=hc.1
     unfold Lo.sends at hs
     simp only [Bool.and_eq_true] at hs
     funext i
     by_cases hi:i<8
     · exact emp_at hs.2 i hi
     · exact h.w8 i (by omega)
   rw [if_pos hc,if_pos ⟨by rw [hc.2.1];simp [isN];omega,wt_sends.2 hc.1,hc.2.2,hc.2.1⟩]
   obtain⟨hcr,hjc⟩:=got_cr h h12
   have key:=fun (q:Rk) (hq:Cr s.now q)=>next_sim L s.now.over q ⟨over_ok hjc.ok,hjc.ex,hjc.ow,hjc.h8⟩ (by show s.now.wa=no8;rw [now_wa];exact hemp) rfl rfl (clr_sim hq) ha
   by_cases h1:s.hk=1
   · rw [if_pos h1] at hcr
     rw [if_pos (show s.abs.hk=1 from h1)]
     exact key _ hcr
   · rw [if_neg h1] at hcr
     rw [if_neg (show ¬s.abs.hk=1 from h1)]
     exact key _ hcr
 · rw [if_neg hc,if_neg]
   · exact⟨rfl,h⟩
   · rintro ⟨_,e2,e3,e4⟩
     exact hc ⟨wt_sends.1 e2,e4,e3⟩
theorem wrote_sim {m c p:Int} (h:Jv s) (ha:∀y∈L,y.Ok):rwroteP s.abs L m c p=((wroteP s L m c p).1.abs,(wroteP s L m c p).2.1,(wroteP s L m c p).2.2)∧Jv (wroteP s L m c p).1:=by
 have hd:s.abs.discTo p 8=s.discards p:=rfl
 unfold rwroteP wroteP
 split
 rotate_left
 · exact⟨rfl,h⟩
 unfold rwroteN wroteN
 rw [hd]
 by_cases hc:((m.toNat:Nat):Int)=s.ow∧c=s.ops m.toNat
 · rw [if_pos hc,if_pos (show s.abs.ow=((m.toNat:Nat):Int)∧s.abs.ops m.toNat=c from⟨hc.1.symm,hc.2.symm⟩)]
   have cpa:Cr s.noPa s.abs.noPa:=⟨rfl,rfl,rfl,rfl,rfl,rfl,rfl,rfl⟩
   by_cases hx:s.ex=((m.toNat:Nat):Int)
   · rw [if_pos hx,if_pos (show s.abs.x=((m.toNat:Nat):Int) from hx)]
     by_cases h3:s.hk=3
     · rw [if_pos h3,if_pos (show s.abs.wt=3 from wt_flush.2 h3)]
       obtain⟨i1,i2⟩:=next_sim L s.noPa.over s.abs.noPa ⟨over_ok (noPa_ok h.ok),h.ex,h.ow,h.h8⟩ (h.wa (by omega)) rfl rfl (clr_sim cpa) ha
       refine⟨?_,i2⟩
       unfold rmore more
       rw [i1]
     · rw [if_neg h3,if_neg (show ¬s.abs.wt=3 from fun e=>h3 (wt_flush.1 e))]
       exact⟨rfl,⟨noPa_ok h.ok,h.ex,h.ow,h.h8,h.hk,h.wa,h.w,h.w8,h.k1,h.k2⟩⟩
   · have hex:¬ 0≤s.ex:=by
       intro e
       have:=(h.ex e).1
       omega
     rw [if_neg hx,if_neg (show ¬s.abs.x=((m.toNat:Nat):Int) from hx)]
     have cno:Cr s.noPa.noOw s.abs.noPa.noOw1:=⟨rfl,rfl,rfl,rfl,rfl,rfl,rfl,rfl⟩
     by_cases h3:s.hk=3
     · rw [if_pos h3,if_pos (show s.abs.wt=3 from wt_flush.2 h3)]
       obtain⟨i1,i2⟩:=next_sim L s.noPa.noOw.over s.abs.noPa.noOw1 ⟨over_ok (noOw_ok (noPa_ok h.ok)),fun e=>absurd e hex,fun e=>absurd e (by show ¬(0:Int)≤ -1;omega),h.h8⟩ (h.wa (by omega)) rfl rfl (clr_sim cno) ha
       refine⟨?_,i2⟩
       unfold rmore more
       rw [i1]
     · rw [if_neg h3,if_neg (show ¬s.abs.wt=3 from fun e=>h3 (wt_flush.1 e))]
       exact⟨rfl,⟨noOw_ok (noPa_ok h.ok),fun e=>absurd e hex,fun e=>absurd e (by show ¬(0:Int)≤ -1;omega),h.h8,h.hk,h.wa,(fun i _=>by show ¬(i:Int)= -1;omega),h.w8,h.k1,h.k2⟩⟩
 · rw [if_neg hc,if_neg (show ¬(s.abs.ow=((m.toNat:Nat):Int)∧s.abs.ops m.toNat=c) from fun e=>hc ⟨e.1.symm,e.2.symm⟩)]
   exact⟨rfl,h⟩
theorem lo0_jv:Jv lo0:=⟨⟨by decide,by decide,by decide,by decide⟩,fun e=>absurd e (by decide),fun e=>absurd e (by decide),fun _ _=>rfl,.inl ⟨rfl,rfl⟩,fun _=>rfl,(fun i hi=>by cases hi),fun _ _=>rfl,fun e=>absurd e (by decide),fun e=>absurd e (by decide)⟩
end Go.Proofs.Ytbigongmlpoahaa
