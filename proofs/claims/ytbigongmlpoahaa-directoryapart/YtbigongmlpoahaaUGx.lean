import Derived.Test.YtbigongmlpoahaaUKit
namespace Go.Proofs.Ytbigongmlpoahaa
set_option maxRecDepth 100000
open Go.RowKit
theorem tE {a : Act} {d : Option Nat} {us : List (Option Value)} {j n : Nat} {v : Value} {w : World} (hv : us[j]? = some (some v)) : ∃ u, a.put d v = a.put d u ∧ tq us j u w ∧ Kept [] w w ∧ ∀ i u, i < n → i ≠ j → tq us i u w → True := ⟨v, rfl, tq_is _ _ _ _ hv, Kept.refl _ _, fun _ _ _ _ _ => trivial⟩
theorem wpAny_inv {P:Program} {ops:Array Oper} {Q:Exit→Act→World→Prop} (I:Array Bool→Act→World→Prop) (hs:∀l a w,I l a w→∀j∈Region.ready .any ops l,wpOp P ops Q j (I (l.setIfInBounds j true)) a w)
   (he:∀l a w,I l a w→Region.ready .any ops l= []→Q .normal a w):∀(fuel:Nat) (l:Array Bool) (a:Act) (w:World),I l a w→(l.toList.filter (fun b=> !b)).length≤fuel→wpAny P .any ops Q fuel l a w:=by
 intro fuel
 induction fuel with
 | zero=>
   intro l a w hI hf
   have hr:Region.ready .any ops l= []:=by
     apply List.eq_nil_iff_forall_not_mem.2
     intro j hj
     have:=unlisted_set (mem_ready.1 hj).1
     omega
   exact⟨hr,he l a w hI hr⟩
 | succ fuel ih=>
   intro l a w hI hf
   refine⟨he l a w hI,fun i hi=>wpOp_mono (fun a w h=>ih _ a w h ?_) (hs l a w hI i hi)⟩
   have:=unlisted_set (mem_ready.1 hi).1
   omega
theorem getD_setD {l:Array Bool} {j i:Nat} (hj:j<l.size) (d:Bool):(l.setIfInBounds j true).getD i d=if i=j then true else l.getD i d:=by
 simp only [Array.getD_eq_getD_getElem?,Array.getElem?_setIfInBounds]
 by_cases e:j=i
 · subst e;simp [hj]
 · rw [if_neg e,if_neg (fun h=>e h.symm)]
theorem putAll_sameW:∀(os:List Oper) (vs:List Value) (a:Act) (j:Nat) (o:Oper) (v:Value) (t:Nat),os[j]?=some o→vs[j]?=some v→o.dst=some t→t<a.tmps.size→
   (∀(i j:Nat) (p q:Oper) (t:Nat),os[i]?=some p→os[j]?=some q→i≠j→p.dst=some t→q.dst≠some t)→(putAll a os vs).tmps[t]?=some v:=by
 intro os
 induction os with
 | nil=>intro vs a j o v t h;simp at h
 | cons p os ih=>
   intro vs a j o v t ho hv ht hlt hap
   cases vs with
   | nil=>simp at hv
   | cons u vs=>
     rw [putAll]
     cases j with
     | zero=>
       simp at ho hv
       subst ho hv
       rw [putAll_other _ _ _ _ ?_,ht,put_same _ _ _ hlt]
       intro q hq
       obtain⟨k,hk⟩:=List.getElem?_of_mem hq
       exact hap 0 (k+1) p q t rfl (by simpa using hk) (by omega) ht
     | succ j=>
       exact ih vs _ j o v t (by simpa using ho) (by simpa using hv) ht (by rw [put_size];exact hlt)
         (fun i k p' q' t' h1 h2 hne=>hap (i+1) (k+1) p' q' t' (by simpa using h1) (by simpa using h2) (by omega))
def okX (ops:Array Oper):Bool:=(List.range ops.size).all (fun j=>match ops[j]? with
 | none=>false
 | some o=>o.guard.isNone&&o.after.all (fun e=> !Region.binds .any e||decide (e.on<j))&&(List.range j).all (fun i=>match ops[i]? with
   | none=>false
   | some p=>p.dst.isNone||p.dst !=o.dst))
structure OkX (ops:Array Oper):Prop where
 guard:∀(j:Nat) (o:Oper),ops[j]?=some o→o.guard=none
 back:∀(j:Nat) (o:Oper),ops[j]?=some o→∀e∈o.after,Region.binds .any e=true→e.on<j
 apart:∀(i j:Nat) (p o:Oper) (t:Nat),i<j→ops[i]?=some p→ops[j]?=some o→p.dst=some t→o.dst≠some t
theorem okX_spec {ops:Array Oper} (h:okX ops=true):OkX ops:=by
 have hj:∀(j:Nat) (o:Oper),ops[j]?=some o→_:=fun j o ho=>(List.all_eq_true.1 h) j (List.mem_range.2 (Array.getElem?_eq_some_iff.1 ho).1)
 refine⟨?_,?_,?_⟩
 · intro j o ho
   have:=hj j o ho
   simp only [ho,Bool.and_eq_true] at this
   exact Option.isNone_iff_eq_none.1 this.1.1
 · intro j o ho e he hb
   have:=hj j o ho
   simp only [ho,Bool.and_eq_true] at this
   have:=(Array.all_eq_true_iff_forall_mem.1 this.1.2) e he
   rw [hb] at this
   simpa using this
 · intro i j p o t hij hp ho hpt hot
   have:=hj j o ho
   simp only [ho,Bool.and_eq_true] at this
   have:=(List.all_eq_true.1 this.2) i (List.mem_range.2 hij)
   rw [hp] at this
   simp [hpt,hot] at this
def told (us:List (Option Value)) (j:Nat) (v:Value):Prop:=∀u,us[j]?=some (some u)→v=u
theorem told_is {us:List (Option Value)} {j:Nat} {v:Value} (u:Value) (h:told us j v) (hj:us[j]?=some (some u)):v=u:=h u hj
theorem hx9 {x v u : Value} {us : List (Option Value)} {i : Nat} (h : x = v ∧ told us i v) (hu : us[i]? = some (some u)) : x = u := h.1.trans (told_is _ h.2 hu)
theorem ud {w W : World} (h : Kept [] w.drew W) : Kept [] w W := ⟨h.os, h.tape, h.output, h.size, h.block⟩
theorem told_of {us:List (Option Value)} {j:Nat} {v:Value} (hj:us[j]?=some (some v)):told us j v:=fun u hu=>by rw [hj] at hu;cases hu;rfl
theorem told_no {us:List (Option Value)} {j:Nat} {v:Value} (hj:us[j]?=some none):told us j v:=fun u hu=>by rw [hj] at hu;cases hu
theorem reach_listed {ops:Array Oper} {l:Array Bool} {j:Nat} (hc:∀(i:Nat) (p:Oper),ops[i]?=some p→l.getD i false=true→∀e∈p.after,Region.binds .any e=true→l.getD e.on false=true):
   ∀(f:Nat) (o:Oper),(∀e∈o.after,Region.binds .any e=true→l.getD e.on false=true)→reaches ops j f o=true→l.getD j false=true:=by
 intro f
 induction f with
 | zero=>intro o _ h;simp [reaches] at h
 | succ f ih=>
   intro o ho h
   simp only [reaches,Array.any_eq_true'] at h
   obtain⟨e,he,hb⟩:=h
   simp only [Bool.and_eq_true,Bool.or_eq_true,beq_iff_eq] at hb
   have hle:=ho e he hb.1
   rcases hb.2 with rfl | h2
   · exact hle
   · cases hp:ops[e.on]? with
     | none=>rw [hp] at h2;simp at h2
     | some p=>
       rw [hp] at h2
       exact ih p (hc e.on p hp hle) h2
theorem wpAny_gx {ops:Array Oper} {Q:Exit→Act→World→Prop} {a0:Act} {w0:World} (n:Nat) (hn:ops.size=n) (hok:okX ops=true) (us:List (Option Value)) (hu:us.length=n)
   (hsl:ops.all (fun o=>match o.dst with | none=>true | some t=>decide (t<a0.tmps.size))=true) (J:Array Bool→(Nat→Value)→World→Prop) (hJ0:J (Array.replicate n false) (fun _=>undef) w0)
   (hop:∀(j:Nat) (o:Oper),j<n→ops[j]?=some o→∀a w l vs,l.size=n→l.getD j false=false→J l vs w→(∀t:Nat,ops.toList.all (fun p=>p.dst !=some t||p.after.any (fun e=>Region.binds .any e&&e.on == j))=true→a.eval (.tmp t)=a0.eval (.tmp t))→
     (∀(i t:Nat),o.after.any (fun e=>Region.binds .any e&&e.on == i)=true→ops[i]?.bind (·.dst)=some t→a.eval (.tmp t)=vs i∧told us i (vs i))→(∀i:Nat,o.after.any (fun e=>Region.binds .any e&&e.on == i)=true→l.getD i false=true)→(∀(i:Nat),(match ops[i]? with | none=>false | some p=>reaches ops j 8 p)=true→l.getD i false=false)→
     o.wp Try.prog a w (fun a' w'=>∃v,a'=a.put o.dst v∧told us j v∧J (l.setIfInBounds j true) (fun i=>if i=j then v else vs i) w') Q)
   (hQ:∀l vs w,(∀j,j<n→l.getD j false=true)→J l vs w→(∀j,j<n→told us j (vs j))→Q .normal (putAll a0 ops.toList ((List.range n).map vs)) w):
   wpAny Try.prog .any ops Q n (Array.replicate n false) a0 w0:=by
 subst hn
 have K:=okX_spec hok
 have hsl':∀o∈ops,∀t,o.dst=some t→t<a0.tmps.size:=by
   intro o ho t ht
   have:=(Array.all_eq_true_iff_forall_mem.1 hsl) o ho
   rw [ht] at this
   simpa using this
 let I:Array Bool→Act→World→Prop:=fun l a w=>l.size=ops.size∧a.defers=a0.defers∧a.tmps.size=a0.tmps.size∧(∀t,(∀(i:Nat) (p:Oper),ops[i]?=some p→p.dst=some t→l.getD i false=false)→a.tmps[t]?=a0.tmps[t]?)∧(∀(i:Nat) (p:Oper),ops[i]?=some p→l.getD i false=true→∀e∈p.after,Region.binds .any e=true→l.getD e.on false=true)∧
   ∃vs:Nat→Value,(∀(j:Nat) (o:Oper) (t:Nat),ops[j]?=some o→o.dst=some t→l.getD j false=true→a.tmps[t]?=some (vs j))∧(∀j:Nat,l.getD j false=true→told us j (vs j))∧J l vs w
 have hrep:∀j,(Array.replicate ops.size false).getD j false=false:=by
   intro j
   rw [Array.getD_eq_getD_getElem?,Array.getElem?_replicate]
   split <;> rfl
 refine wpAny_inv I ?_ ?_ ops.size _ a0 w0 ⟨by simp,rfl,rfl,fun _ _=>rfl,(fun i p _ hl=>by rw [hrep] at hl;cases hl),fun _=>undef,(fun j o t ho ht hl=>by rw [hrep] at hl;cases hl),(fun j hl=>by rw [hrep] at hl;cases hl),hJ0⟩ (by simp)
 · rintro l a w ⟨i1,i2,i3,i4,i8,vs,i5,i7,i6⟩ j hj
   obtain⟨hjl,o,ho,hdeps⟩:=mem_ready.1 hj
   have hjs:j<ops.size:=(Array.getElem?_eq_some_iff.1 ho).1
   have hjf:l.getD j false=false:=by
     simp only [Array.getD_eq_getD_getElem?] at hjl⊢
     rw [Array.getElem?_eq_getElem (by omega)] at hjl⊢
     simpa using hjl
   have hdep:∀i:Nat,o.after.any (fun e=>Region.binds .any e&&e.on == i)=true→l.getD i false=true:=by
     intro i hi
     obtain⟨k,hk,hb⟩:=Array.any_eq_true.1 hi
     have he:=Array.getElem_mem hk
     obtain⟨e,hee⟩:∃e,o.after[k]=e:=⟨_,rfl⟩
     rw [hee] at hb he
     simp only [Bool.and_eq_true,beq_iff_eq] at hb
     have:=hdeps e he hb.1
     rwa [hb.2] at this
   have hin:∀(i s:Nat),o.after.any (fun e=>Region.binds .any e&&e.on == i)=true→ops[i]?.bind (·.dst)=some s→a.eval (.tmp s)=vs i∧told us i (vs i):=by
     intro i s hi hs
     cases hq:ops[i]? with
     | none=>rw [hq] at hs;cases hs
     | some p=>
       rw [hq] at hs
       have hv:=i5 i p s hq hs (hdep i hi)
       exact⟨by simp [Act.eval,Array.getD_eq_getD_getElem?,hv],i7 i (hdep i hi)⟩
   have next:∀v w',told us j v→J (l.setIfInBounds j true) (fun i=>if i=j then v else vs i) w'→I (l.setIfInBounds j true) (a.put o.dst v) w':=by
     intro v w' hv hJ
     refine⟨by simp [i1],by rw [put_defers];exact i2,by rw [put_size];exact i3,?_,?_,_,?_,?_,hJ⟩
     · intro s hs
       have hns:o.dst≠some s:=by
         intro e
         have:=hs j o ho e
         rw [getD_setD (by omega),if_pos rfl] at this
         cases this
       rw [put_other _ _ _ _ hns]
       refine i4 s fun i p hp hd=> ?_
       have:=hs i p hp hd
       rw [getD_setD (by omega)] at this
       split at this
       · cases this
       · exact this
     · intro i p hp hl e he hb
       rw [getD_setD (by omega)] at hl⊢
       by_cases hij:i=j
       · subst hij
         rw [ho] at hp;cases hp
         rw [hdeps e he hb]
         split <;> rfl
       · rw [if_neg hij] at hl
         rw [i8 i p hp hl e he hb]
         split <;> rfl
     · intro i p s hp hs hl
       rw [getD_setD (by omega)] at hl
       by_cases hij:i=j
       · subst hij
         rw [ho] at hp;cases hp
         simp only [if_true]
         rw [hs]
         exact put_same _ _ _ (by rw [i3];exact hsl' o (Array.mem_of_getElem? ho) s hs)
       · rw [if_neg hij] at hl
         simp only [if_neg hij]
         rw [put_other _ _ _ _ (by
           rcases Nat.lt_or_gt_of_ne hij with h | h
           · exact K.apart i j p o s h hp ho hs
           · exact fun e=>K.apart j i o p s h ho hp e hs)]
         exact i5 i p s hp hs hl
     · intro i hl
       rw [getD_setD (by omega)] at hl
       by_cases hij:i=j
       · subst hij
         simp only [if_true]
         exact hv
       · rw [if_neg hij] at hl
         simp only [if_neg hij]
         exact i7 i hl
   unfold wpOp
   rw [ho]
   simp only
   have hout:∀s:Nat,ops.toList.all (fun p=>p.dst !=some s||p.after.any (fun e=>Region.binds .any e&&e.on == j))=true→a.eval (.tmp s)=a0.eval (.tmp s):=by
     intro s hs
     have:=i4 s (fun i p hp e=>by
       have h1:=(List.all_eq_true.1 hs) p (by simpa using Array.mem_of_getElem? hp)
       rw [e] at h1
       simp only [bne_self_eq_false,Bool.false_or] at h1
       obtain⟨q,hq,hb⟩:=Array.any_eq_true.1 h1
       simp only [Bool.and_eq_true,beq_iff_eq] at hb
       cases hli:l.getD i false with
       | false=>rfl
       | true=>
         have:=i8 i p hp hli _ (Array.getElem_mem hq) hb.1
         rw [hb.2,hjf] at this
         cases this)
     simp [Act.eval,Array.getD_eq_getD_getElem?,this]
   have hnot:∀(i:Nat),(match ops[i]? with | none=>false | some p=>reaches ops j 8 p)=true→l.getD i false=false:=by
     intro i hi
     cases hp:ops[i]? with
     | none=>rw [hp] at hi;cases hi
     | some p=>
       rw [hp] at hi
       cases hli:l.getD i false with
       | false=>rfl
       | true=>
         have:=reach_listed i8 8 p (i8 i p hp hli) hi
         rw [hjf] at this
         cases this
   rw [if_pos (by simp [Region.wanted,K.guard j o ho])]
   exact .inl (Oper.wp_mono (fun a' w' ⟨v,e,hv,hJ⟩=>by rw [e];exact next v w' hv hJ) (hop j o hjs ho a w l vs i1 hjf i6 hout hin hdep hnot))
 · rintro l a w ⟨i1,i2,i3,i4,i8,vs,i5,i7,i6⟩ hr
   have hall:∀n j,j<n→j<ops.size→l.getD j false=true:=by
     intro n
     induction n with
     | zero=>intro j hj;omega
     | succ n ih=>
       intro j hj hjs
       cases hlj:l.getD j false with
       | true=>rfl
       | false=>
         exfalso
         have hmem:j∈Region.ready .any ops l:=by
           rw [mem_ready]
           refine⟨?_,ops[j],Array.getElem?_eq_getElem hjs,fun e he hb=> ?_⟩
           · simp only [Array.getD_eq_getD_getElem?] at hlj⊢
             rw [Array.getElem?_eq_getElem (by omega)] at hlj⊢
             simpa using hlj
           · have:=K.back j ops[j] (Array.getElem?_eq_getElem hjs) e he hb
             exact ih e.on (by omega) (by omega)
         rw [hr] at hmem
         cases hmem
   have hl:=fun j (hj:j<ops.size)=>hall (j+1) j (by omega) hj
   have ha:a=putAll a0 ops.toList ((List.range ops.size).map vs):=by
     have hs:=putAll_size ops.toList ((List.range ops.size).map vs) a0
     have hdst:∀(i j:Nat) (p q:Oper) (t:Nat),ops.toList[i]?=some p→ops.toList[j]?=some q→i≠j→p.dst=some t→q.dst≠some t:=by
       intro i j p q t hp hq hij
       rw [Array.getElem?_toList] at hp hq
       rcases Nat.lt_or_gt_of_ne hij with h | h
       · exact K.apart i j p q t h hp hq
       · exact fun e1 e2=>K.apart j i q p t h hq hp e2 e1
     have ht:a.tmps=(putAll a0 ops.toList ((List.range ops.size).map vs)).tmps:=by
       apply Array.ext_getElem?
       intro t
       by_cases hx:∃(j:Nat) (o:Oper),ops[j]?=some o∧o.dst=some t
       · obtain⟨j,o,ho,hd⟩:=hx
         have hjs:j<ops.size:=(Array.getElem?_eq_some_iff.1 ho).1
         have hv:=i5 j o t ho hd (hl j hjs)
         have hvv:((List.range ops.size).map vs)[j]?=some (vs j):=by simp [hjs]
         rw [hv,putAll_sameW ops.toList ((List.range ops.size).map vs) a0 j o (vs j) t (by rw [Array.getElem?_toList];exact ho) hvv hd (hsl' o (Array.mem_of_getElem? ho) t hd) hdst]
       · have hno:∀p∈ops.toList,p.dst≠some t:=by
           intro p hp e
           obtain⟨j,hj⟩:=List.mem_iff_getElem?.1 hp
           exact hx ⟨j,p,by rw [← Array.getElem?_toList];exact hj,e⟩
         rw [i4 t (fun i p hp e=>absurd e (hno p (by simpa using Array.mem_of_getElem? hp))),putAll_other ops.toList ((List.range ops.size).map vs) a0 t hno]
     cases a
     simp only at ht i2
     cases hp:putAll a0 ops.toList ((List.range ops.size).map vs) with
     | mk tm df=>
       rw [hp] at ht hs
       simp only at ht hs
       rw [ht,i2,hs.2]
   rw [ha]
   exact hQ l vs w hl i6 fun j hj=>i7 j (hl j hj)
section
variable {l:Array Bool} {vs:Nat→Value} {w:World} {j p q:Nat} {v:Value}
end
end Go.Proofs.Ytbigongmlpoahaa
