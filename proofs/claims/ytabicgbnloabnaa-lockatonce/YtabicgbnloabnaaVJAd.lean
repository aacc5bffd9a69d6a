import Derived.Test.YtabicgbnloabnaaVPf
import Derived.Test.YtabicgbnloabnaaVAb
namespace Go.Proofs.Ytabicgbnloabnaa
set_option maxRecDepth 100000
set_option linter.unusedSimpArgs false
open Go.RowKit
variable {s:Lo} {r:Rk} {l L:List Wi}
theorem lst_range {f:Nat→Bool} {m:Int} (h:m∈lst f):∃n:Nat,n<8∧m=(n:Int)∧f n=true:=by
 have key:∀j,j≤8→m∈lstTo f j→∃n:Nat,n<8∧m=(n:Int)∧f n=true:=by
   intro j
   induction j with
   | zero=>intro _ hm;cases hm
   | succ j ih=>
     intro hj hm
     rw [lstTo] at hm
     rcases List.mem_append.1 hm with h1 | h1
     · exact ih (by omega) h1
     · cases hf:f j with
       | false=>rw [hf] at h1;cases h1
       | true=>rw [hf] at h1;simp at h1;exact⟨j,by omega,h1,hf⟩
 exact key 8 (by omega) h
end Go.Proofs.Ytabicgbnloabnaa
namespace Go.Proofs.Ytabicgbnloabnaa
set_option maxRecDepth 100000
set_option linter.unusedSimpArgs false
open Go.RowKit
variable {s:Lo} {m o:Nat→Int}
structure Sy (s:Lo) (m o:Nat→Int):Prop where
 m:∀i,i<8→m i=if s.ho i=true then (if s.ex=(i:Int) then 2 else 1) else 0
 o:∀i,i<8→s.ho i=true→o i=s.ops i
theorem cnt_none (f:Nat→Bool):∀j,(∀i,i<j→f i=false)→cnt f j=0
 | 0,_=>rfl
 | j+1,h=>by rw [cnt,cnt_none f j (fun i hi=>h i (by omega)),h j (by omega)];rfl
theorem cnt_one (f:Nat→Bool) (k:Nat):∀j,(∀i,i<j→f i=true→i=k)→cnt f j≤1∧(k<j→f k=true→cnt f j=1)∧(j≤k→cnt f j=0)
 | 0,_=>⟨by simp [cnt],by omega,fun _=>rfl⟩
 | j+1,h=>by
   obtain⟨h1,h2,h3⟩:=cnt_one f k j (fun i hi=>h i (by omega))
   have hj:=h j (by omega)
   rw [cnt]
   by_cases e:j=k
   · subst e
     have h4:=h3 (Nat.le_refl _)
     refine⟨by split <;> omega,fun _ hf=>by rw [if_pos hf,h4],fun hk=>by omega⟩
   · have hf:f j=false:=by
       cases hq:f j with
       | false=>rfl
       | true=>exact absurd (hj hq) e
     rw [if_neg (by rw [hf];simp)]
     exact⟨h1,fun hk hf2=>h2 (by omega) hf2,fun hk=>h3 (by omega)⟩
theorem Sy.right (h:Sy s m o) (hj:Jc s):rightB m=true:=by
 unfold rightB
 refine decide_eq_true ?_
 by_cases hx:0≤s.ex
 · obtain⟨e1,e2⟩:=hj.ex hx
   have hr:=hj.ok.ex
   have key:∀i,i<8→isH m i=true→i=s.ex.toNat:=by
     intro i hi hh
     unfold isH at hh
     rw [h.m i hi] at hh
     cases hb:s.ho i with
     | false=>rw [hb] at hh;simp at hh
     | true=>have:=e2 i hb;omega
   have keyX:∀i,i<8→isX m i=true→i=s.ex.toNat:=by
     intro i hi hh
     unfold isX at hh
     rw [h.m i hi] at hh
     cases hb:s.ho i with
     | false=>rw [hb] at hh;simp at hh
     | true=>have:=e2 i hb;omega
   obtain⟨a1,a2,_⟩:=cnt_one (isX m) s.ex.toNat 8 keyX
   obtain⟨b1,b2,_⟩:=cnt_one (isH m) s.ex.toNat 8 key
   have ho:=hj.ow (by omega)
   rw [e1] at ho
   refine⟨a1,.inr (b2 (by omega) ?_)⟩
   unfold isH
   rw [h.m _ (by omega),if_pos ho]
   split <;> simp
 · have keyX:∀i,i<8→isX m i=false:=by
     intro i hi
     unfold isX
     rw [h.m i hi]
     split
     · rw [if_neg (by omega)];simp
     · simp
   have:=cnt_none (isX m) 8 keyX
   omega
theorem lowFrom_upd (f:Nat→Bool) (i:Nat):∀k j,(lowFrom f j k=(i:Int)→False)→lowFrom (upd f i false) j k=lowFrom f j k:=by
 intro k
 induction k with
 | zero=>intro j _;rfl
 | succ k ih=>
   intro j h
   unfold lowFrom at h⊢
   by_cases e:j=i
   · subst e
     rw [updYes]
     cases hf:f j with
     | true=>rw [hf] at h;exact absurd rfl h
     | false=>
       rw [hf] at h
       simp only [Bool.false_eq_true,if_false] at h⊢
       exact ih _ h
   · rw [updNo _ _ e]
     cases hf:f j with
     | true=>rfl
     | false=>
       rw [hf] at h
       simp only [Bool.false_eq_true,if_false] at h⊢
       exact ih _ h
end Go.Proofs.Ytabicgbnloabnaa
namespace Go.Proofs.Ytabicgbnloabnaa
set_option maxRecDepth 100000
set_option linter.unusedSimpArgs false
open Go.RowKit
variable {s:Lo} {m o:Nat→Int}
theorem low_holds (f:Nat→Bool):∀k j,lowFrom f j k≠ -1→∃i,i<j+k∧lowFrom f j k=(i:Int)∧f i=true:=by
 intro k
 induction k with
 | zero=>intro j h;exact absurd rfl h
 | succ k ih=>
   intro j h
   unfold lowFrom at h⊢
   cases hf:f j with
   | true=>exact ⟨j,by omega,by simp,hf⟩
   | false=>
     rw [hf] at h
     simp only [Bool.false_eq_true,if_false] at h⊢
     obtain⟨i,h1,h2,h3⟩:=ih (j+1) h
     exact⟨i,by omega,h2,h3⟩
theorem sup_holds (h:Jc s) (n:Nat) (hs:¬s.sup n= -1):s.ho (s.sup n).toNat=true:=by
 unfold Lo.sup at hs⊢
 by_cases h1:s.ow≠ -1∧s.ow≠(n:Int)
 · rw [if_pos h1]
   have:=h.ok.ow
   exact h.ow (by omega)
 · rw [if_neg h1] at hs⊢
   by_cases h2:s.ho n=true
   · rw [if_pos h2] at hs;exact absurd rfl hs
   · rw [if_neg h2] at hs⊢
     obtain⟨i,_,e,hi⟩:=low_holds s.ho 8 0 hs
     show s.ho (lowFrom s.ho 0 8).toNat=true
     rw [e,Int.toNat_natCast];exact hi
theorem lst_head {f:Nat→Bool} {x:Int} {r:List Int} (h:lst f=x::r):∃n:Nat,n<8∧x=(n:Int)∧f n=true∧lst (upd f n false)=r:=by
 have key:∀(j:Nat) (x:Int) (r:List Int),lstTo f j=x::r→∃n:Nat,n<j∧x=(n:Int)∧f n=true∧∀k,j≤k→(∃q,lstTo f k=x::(r++q)∧lstTo (upd f n false) k=r++q):=by
   intro j
   induction j with
   | zero=>intro x r h;cases h
   | succ j ih=>
     intro x r h
     rw [lstTo] at h
     cases hl:lstTo f j with
     | cons y q=>
       rw [hl] at h
       simp only [List.cons_append,List.cons.injEq] at h
       obtain⟨rfl,h2⟩:=h
       obtain⟨n,h3,h4,h5,h6⟩:=ih y q hl
       refine⟨n,by omega,h4,h5,fun k hk=> ?_⟩
       obtain⟨p,e1,e2⟩:=h6 (j+1) (by omega)
       obtain⟨p2,e3,e4⟩:=h6 k (by omega)
       have hq:q++p=r:=by
         rw [lstTo,hl] at e1
         simp only [List.cons_append,List.cons.injEq,true_and] at e1
         rw [← e1,h2]
       have hr:∃p3,q++p2=r++p3:=by
         have:∀k,j+1≤k→∃u,lstTo f k=lstTo f (j+1)++u:=by
           intro k
           induction k with
           | zero=>intro hk;omega
           | succ k ihk=>
             intro hk
             by_cases e:j+1=k+1
             · rw [e];exact⟨[],by simp⟩
             · obtain⟨u,hu⟩:=ihk (by omega)
               exact⟨u++(if f k then [(k:Int)] else []),by rw [lstTo,hu,List.append_assoc]⟩
         obtain⟨u,hu⟩:=this k hk
         rw [e3,e1] at hu
         simp only [List.cons_append,List.cons.injEq,true_and] at hu
         exact⟨u,by rw [hu,hq]⟩
       obtain⟨p3,hp3⟩:=hr
       exact⟨p3,by rw [e3,hp3],by rw [e4,hp3]⟩
     | nil=>
       rw [hl] at h
       cases hf:f j with
       | false=>rw [hf] at h;cases h
       | true=>
         rw [hf] at h
         simp at h
         obtain⟨rfl,rfl⟩:=h
         refine⟨j,by omega,rfl,hf,fun k hk=> ?_⟩
         have hno:∀i,i<j→f i=false:=by
           intro i hi
           cases hq:f i with
           | false=>rfl
           | true=>
             exfalso
             have h9:∀u,i<u→(i:Int)∈lstTo f u:=by
               intro u
               induction u with
               | zero=>intro hu;omega
               | succ u ihu=>
                 intro hu
                 rw [lstTo]
                 by_cases e:i=u
                 · subst e;rw [hq];exact List.mem_append_right _ (by simp)
                 · exact List.mem_append_left _ (ihu (by omega))
             have:=h9 j hi
             rw [hl] at this
             cases this
         have go:∀u,∃q,lstTo f (j+1+u)=(j:Int)::q∧lstTo (upd f j false) (j+1+u)=q:=by
           intro u
           induction u with
           | zero=>
             refine⟨[],by rw [Nat.add_zero,lstTo,hl,hf];rfl,?_⟩
             exact lst_none (j+1) _ (fun i hi=>by
               by_cases e:i=j
               · rw [e,updYes]
               · rw [updNo _ _ e];exact hno i (by omega))
           | succ u ihu=>
             obtain⟨q,e1,e2⟩:=ihu
             refine⟨q++(if f (j+1+u) then [((j+1+u:Nat):Int)] else []),?_,?_⟩
             · rw [show j+1+(u+1)=(j+1+u)+1 by omega,lstTo,e1];rfl
             · rw [show j+1+(u+1)=(j+1+u)+1 by omega,lstTo,e2,updNo _ _ (by omega)]
         obtain⟨q,e1,e2⟩:=go (k-(j+1))
         rw [show j+1+(k-(j+1))=k by omega] at e1 e2
         exact⟨q,e1,e2⟩
 obtain⟨n,h1,h2,h3,h4⟩:=key 8 x r h
 obtain⟨q,e1,e2⟩:=h4 8 (Nat.le_refl _)
 have hq:q= []:=by
   have h9:lstTo f 8=x::r:=h
   rw [h9] at e1
   simp at e1
   exact e1
 subst hq
 exact⟨n,h1,h2,h3,by show lstTo _ 8=r;rw [e2];simp⟩
end Go.Proofs.Ytabicgbnloabnaa
