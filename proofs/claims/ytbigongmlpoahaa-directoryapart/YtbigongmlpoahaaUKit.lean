import Derived.Test.YtbigongmlpoahaaUPlain
import Derived.Test.YtbigongmlpoahaaProg
import Derived.Orders
import Derived.BigFrame
import Derived.ChangeKeysEq
import Derived.Deep.QuietTactic
import Derived.Laws.CopyOwn
import Derived.Deep.RegionLaw
import Derived.Laws.StructEq
namespace Go.Proofs.Ytbigongmlpoahaa
set_option maxRecDepth 100000
open Go.RowKit
abbrev P0 (b:Nat):Value:= .pointer (some ⟨b,0,none⟩)
def putAll (a:Act):List Oper→List Value→Act
 | o::os,v::vs=>putAll (a.put o.dst v) os vs
 | _,_=>a
def reaches (ops:Array Oper) (i:Nat):Nat→Oper→Bool
 | 0,_=>false
 | f+1,o=>o.after.any (fun e=>Region.binds .any e&&(e.on == i||(match ops[e.on]? with
   | none=>false
   | some p=>reaches ops i f p)))
def prefOK (ops:Array Oper) (n:Nat):Bool:=
 decide (n≤ops.size)&&(List.range n).all (fun j=>match ops[j]? with
   | none=>false
   | some o=>o.guard.isNone&&o.dst.isSome&&o.after.all (fun e=>decide (e.on<j))&&(List.range j).all (fun i=>match ops[i]? with
     | none=>false
     | some p=>p.dst !=o.dst))&&
 (List.range ops.size).all (fun j=>decide (j<n)||(match ops[j]? with
   | none=>false
   | some o=>(List.range n).all (fun i=>reaches ops i 8 o)))
section
variable {P:Program} {ops:Array Oper} {Q:Exit→Act→World→Prop}
structure PrefOK (ops:Array Oper) (n:Nat):Prop where
 le:n≤ops.size
 guard:∀(j:Nat) (o:Oper),j<n→ops[j]?=some o→o.guard=none
 dst:∀(j:Nat) (o:Oper),j<n→ops[j]?=some o→∃t,o.dst=some t
 back:∀(j:Nat) (o:Oper),j<n→ops[j]?=some o→∀e∈o.after,e.on<j
 apart:∀(i j:Nat) (p o:Oper),i<n→j<n→ops[i]?=some p→ops[j]?=some o→i≠j→p.dst≠o.dst
 wait:∀(j i:Nat) (o:Oper),n≤j→i<n→ops[j]?=some o→reaches ops i 8 o=true
theorem prefOK_spec {n:Nat} (h:prefOK ops n=true):PrefOK ops n:=by
 unfold prefOK at h
 rw [Bool.and_eq_true,Bool.and_eq_true] at h
 obtain⟨⟨h0,h1⟩,h2⟩:=h
 have h0:=of_decide_eq_true h0
 rw [List.all_eq_true] at h1 h2
 have g1:∀(j:Nat) (o:Oper),j<n→ops[j]?=some o→(o.guard.isNone&&o.dst.isSome&&o.after.all (fun e=>decide (e.on<j))&&(List.range j).all (fun i=>match ops[i]? with
     | none=>false
     | some p=>p.dst !=o.dst))=true:=by
   intro j o hj ho
   have:=h1 j (List.mem_range.2 hj)
   rw [ho] at this
   exact this
 have lt:∀(i j:Nat) (p o:Oper),j<n→ops[i]?=some p→ops[j]?=some o→i<j→p.dst≠o.dst:=by
   intro i j p o hj hp ho hij
   have:=g1 j o hj ho
   rw [Bool.and_eq_true,List.all_eq_true] at this
   have:=this.2 i (List.mem_range.2 hij)
   rw [hp] at this
   simpa using this
 refine⟨h0,?_,?_,?_,?_,?_⟩
 · intro j o hj ho
   have:=g1 j o hj ho
   simp only [Bool.and_eq_true] at this
   exact Option.isNone_iff_eq_none.1 this.1.1.1
 · intro j o hj ho
   have:=g1 j o hj ho
   simp only [Bool.and_eq_true] at this
   exact Option.isSome_iff_exists.1 this.1.1.2
 · intro j o hj ho e he
   have:=g1 j o hj ho
   simp only [Bool.and_eq_true] at this
   have:=(Array.all_eq_true_iff_forall_mem.1 this.1.2) e he
   simpa using this
 · intro i j p o hi hj hp ho hne
   rcases Nat.lt_or_gt_of_ne hne with h | h
   · exact lt i j p o hj hp ho h
   · exact(lt j i o p hi ho hp h).symm
 · intro j i o hj hi ho
   have:=h2 j (List.mem_range.2 (Array.getElem?_eq_some_iff.1 ho).1)
   rw [ho,decide_eq_false (by omega),Bool.false_or] at this
   simp only [List.all_eq_true] at this
   exact this i (List.mem_range.2 hi)
theorem reaches_listed {n i:Nat} {listed:Array Bool} (h6:∀j,n≤j→listed.getD j false=false) (h7:∀(j:Nat) (o:Oper),j<n→ops[j]?=some o→listed.getD j false=true→∀e∈o.after,Region.binds .any e=true→listed.getD e.on false=true):
   ∀(f:Nat) (o:Oper),reaches ops i f o=true→(∀e∈o.after,Region.binds .any e=true→listed.getD e.on false=true)→listed.getD i false=true:=by
 intro f
 induction f with
 | zero=>intro o h _;simp [reaches] at h
 | succ f ih=>
   intro o h hl
   simp only [reaches,Array.any_eq_true'] at h
   obtain⟨e,he,hb⟩:=h
   simp only [Bool.and_eq_true,Bool.or_eq_true,beq_iff_eq] at hb
   have hle:=hl e he hb.1
   rcases hb.2 with rfl | h2
   · exact hle
   · cases hp:ops[e.on]? with
     | none=>rw [hp] at h2;simp at h2
     | some p=>
       rw [hp] at h2
       by_cases hen:e.on<n
       · exact ih p h2 (h7 e.on p hen hp hle)
       · have:=h6 e.on (by omega)
         rw [this] at hle
         cases hle
theorem put_other (a:Act) (d:Option Tmp) (v:Value) (t:Nat) (h:d≠some t):(a.put d v).tmps[t]?=a.tmps[t]?:=by
 cases d with
 | none=>rfl
 | some d=>
   simp only [Act.put]
   rw [Array.getElem?_setIfInBounds_ne (by intro e;exact h (by rw [e]))]
theorem put_same (a:Act) (t:Nat) (v:Value) (h:t<a.tmps.size):(a.put (some t) v).tmps[t]?=some v:=by
 simp [Act.put,h]
theorem put_size (a:Act) (d:Option Tmp) (v:Value):(a.put d v).tmps.size=a.tmps.size:=by cases d <;> simp [Act.put]
theorem put_defers (a:Act) (d:Option Tmp) (v:Value):(a.put d v).defers=a.defers:=by cases d <;> rfl
theorem putAll_other:∀(os:List Oper) (vs:List Value) (a:Act) (t:Nat),(∀o∈os,o.dst≠some t)→(putAll a os vs).tmps[t]?=a.tmps[t]?:=by
 intro os
 induction os with
 | nil=>intro vs a t _;rfl
 | cons o os ih=>
   intro vs a t h
   cases vs with
   | nil=>rfl
   | cons v vs=>rw [putAll,ih _ _ _ (fun p hp=>h p (List.mem_cons_of_mem _ hp)),put_other _ _ _ _ (h o (List.mem_cons_self ..))]
theorem putAll_size:∀(os:List Oper) (vs:List Value) (a:Act),(putAll a os vs).tmps.size=a.tmps.size∧(putAll a os vs).defers=a.defers:=by
 intro os
 induction os with
 | nil=>intro vs a;exact⟨rfl,rfl⟩
 | cons o os ih=>
   intro vs a
   cases vs with
   | nil=>exact ⟨rfl,rfl⟩
   | cons v vs=>rw [putAll];exact⟨(ih _ _).1.trans (put_size _ _ _),(ih _ _).2.trans (put_defers _ _ _)⟩
theorem putAll_same:∀(os:List Oper) (vs:List Value) (a:Act) (j:Nat) (o:Oper) (v:Value) (t:Nat),os[j]?=some o→vs[j]?=some v→o.dst=some t→t<a.tmps.size→
   (∀(i j:Nat) (p q:Oper),os[i]?=some p→os[j]?=some q→i≠j→p.dst≠q.dst)→(putAll a os vs).tmps[t]?=some v:=by
 intro os
 induction os with
 | nil=>intro vs a j o v t h;simp at h
 | cons p os ih=>
   intro vs a j o v t ho hv ht hlt hap
   cases vs with
   | nil=>simp at hv
   | cons u vs=>
     rw [putAll]
     cases j with
     | zero=>
       simp at ho hv
       subst ho hv
       rw [putAll_other _ _ _ _ ?_,ht,put_same _ _ _ hlt]
       intro q hq
       obtain⟨k,hk⟩:=List.getElem?_of_mem hq
       have:=hap 0 (k+1) p q rfl (by simpa using hk) (by omega)
       rw [ht] at this
       exact fun e=>this e.symm
     | succ j=>
       exact ih vs _ j o v t (by simpa using ho) (by simpa using hv) ht (by rw [put_size];exact hlt)
         (fun i k p' q' h1 h2 hne=>hap (i+1) (k+1) p' q' (by simpa using h1) (by simpa using h2) (by omega))
theorem unlisted_set {listed:Array Bool} {i:Nat} (hi:listed.getD i true=false):((listed.setIfInBounds i true).toList.filter (fun b=> !b)).length<(listed.toList.filter (fun b=> !b)).length:=by
 have hlt:i<listed.toList.length:=by
   simp only [Array.getD] at hi
   split at hi
   · simpa using ‹_›
   · simp at hi
 have hv:listed.toList[i]=false:=by
   simp only [Array.getD] at hi
   rw [dif_pos (by simpa using hlt)] at hi
   simpa using hi
 have h1:(listed.setIfInBounds i true).toList=listed.toList.take i++true::listed.toList.drop (i+1):=by
   rw [Array.toList_setIfInBounds,List.set_eq_take_append_cons_drop,if_pos hlt]
 have h2:listed.toList=listed.toList.take i++false::listed.toList.drop (i+1):=by
   conv=>lhs;rw [← List.take_append_drop i listed.toList]
   rw [List.drop_eq_getElem_cons hlt,hv]
 rw [h1]
 conv=>rhs;rw [h2]
 simp [List.filter_append]
theorem unlisted_set' {listed:Array Bool} {i:Nat} (hi:listed.getD i true=false) (hl:i<listed.size):((listed.setIfInBounds i true).toList.filter (fun b=> !b)).length+1=(listed.toList.filter (fun b=> !b)).length:=by
 obtain⟨l⟩:=listed
 simp only [List.size_toArray] at hl
 have hx:l[i]=false:=by simpa [Array.getD,hl] using hi
 have e:l=l.take i++false::l.drop (i+1):=by rw [← hx];simp
 have e2:((l.toArray.setIfInBounds i true).toList)=l.take i++true::l.drop (i+1):=by
   rw [List.setIfInBounds_toArray,List.set_eq_take_append_cons_drop,if_pos hl]
 rw [e2]
 simp only [] at*
 conv=>rhs;rw [e]
 simp [List.filter_append]
 omega
def lists (n m:Nat):Array Bool:=(List.replicate n true++List.replicate (m-n) false).toArray
theorem wp_region_prefix {id:Nat} {a0:Act} {w0:World} (hm:P.follows .mixedOrders=true) (n r:Nat) (hnr:ops.size=n+r) (hok:prefOK ops n=true) (F:Nat→Value→World→Prop) (E:Nat→Nat→Value→Value→Prop)
   (hF:∀j v w w',F j v w→Kept [] w w'→F j v w') (hsl:ops.all (fun o=>match o.dst with | none=>true | some t=>decide (t<a0.tmps.size))=true)
   (hop:∀(j:Nat) (o:Oper),j<n→ops[j]?=some o→∀a w,(∀t:Nat,(ops.toList.take n).all (fun p=>p.dst !=some t)=true→a.eval (.tmp t)=a0.eval (.tmp t))→
     (∀(i t:Nat),o.after.any (fun e=>Region.binds .any e&&e.on == i)=true→ops[i]?.bind (·.dst)=some t→F i (a.eval (.tmp t)) w)→Kept [] w0 w→
     o.wp P a w (fun a' w'=>∃v,a'=a.put o.dst v∧F j v w'∧Kept [] w w'∧∀i u,i<n→i≠j→F i u w→E i j u v) Q)
   (hQ:∀(vs:List Value) w,vs.length=n→(∀(j:Nat) v,vs[j]?=some v→F j v w)→(∀(i j:Nat) u v,i≠j→vs[i]?=some u→vs[j]?=some v→E i j u v∨E j i v u)→Kept [] w0 w→wpAny P .any ops Q r (lists n (n+r)) (putAll a0 (ops.toList.take n) vs) w):
   (Code.region id ops true).wp P Q a0 w0:=by
 have K:=prefOK_spec hok
 have hsl':∀o∈ops,∀t,o.dst=some t→t<a0.tmps.size:=by
   intro o ho t ht
   have:=(Array.all_eq_true_iff_forall_mem.1 hsl) o ho
   rw [ht] at this
   simpa using this
 have hmemT:∀o,o∈ops.toList.take n↔∃j,j<n∧ops[j]?=some o:=by
   intro o
   rw [List.mem_iff_getElem?]
   constructor
   · rintro ⟨j,hj⟩
     have hjn:j<n:=by
       have:=(List.getElem?_eq_some_iff.1 hj).1
       rw [List.length_take] at this
       omega
     rw [List.getElem?_take_of_lt hjn] at hj
     exact⟨j,hjn,by simpa using hj⟩
   · rintro ⟨j,hjn,hj⟩
     exact⟨j,by rw [List.getElem?_take_of_lt hjn];simpa using hj⟩
 refine wp_region_any hm ?_
 let I:Array Bool→Act→World→Prop:=fun listed a w=>
   listed.size=ops.size∧a.defers=a0.defers∧a.tmps.size=a0.tmps.size∧(∀t,(∀p∈ops.toList.take n,p.dst≠some t)→a.tmps[t]?=a0.tmps[t]?)∧
   (∀(j:Nat) (o:Oper) (t:Nat),j<n→ops[j]?=some o→o.dst=some t→listed.getD j false=true→∃v,a.tmps[t]?=some v∧F j v w)∧
   (∀j,n≤j→listed.getD j false=false)∧(∀(j:Nat) (o:Oper),j<n→ops[j]?=some o→listed.getD j false=true→∀e∈o.after,Region.binds .any e=true→listed.getD e.on false=true)∧(∀(i j:Nat) (p o:Oper) (s t:Nat) (u v:Value),i<n→j<n→i≠j→ops[i]?=some p→ops[j]?=some o→p.dst=some s→o.dst=some t→listed.getD i false=true→listed.getD j false=true→a.tmps[s]?=some u→a.tmps[t]?=some v→E i j u v∨E j i v u)∧Kept [] w0 w
 have main:∀fuel listed a w,I listed a w→(listed.toList.filter (fun b=> !b)).length=fuel→wpAny P .any ops Q fuel listed a w:=by
   have hend:∀fuel listed a w,I listed a w→(listed.toList.filter (fun b=> !b)).length=fuel→(∀j,j<n→listed.getD j false=true)→wpAny P .any ops Q fuel listed a w:=by
     intro fuel listed a w hI hfu hl
     obtain⟨i1,i2,i3,i4,i5,i6,i7,i9,i8⟩:=hI
     have hlist:listed=lists n ops.size:=by
       apply Array.ext_getElem?
       intro j
       by_cases hj:j<ops.size
       · have e:listed[j]?=some (listed.getD j false):=by simp [Array.getD,i1,hj]
         rw [e]
         unfold lists
         rw [List.getElem?_toArray]
         by_cases hjn:j<n
         · rw [hl j hjn,List.getElem?_append_left (by simpa using hjn),List.getElem?_replicate_of_lt hjn]
         · rw [i6 j (by omega),List.getElem?_append_right (by simp;omega),List.getElem?_replicate_of_lt (by simp;omega)]
       · rw [Array.getElem?_eq_none (by omega),Array.getElem?_eq_none (by have:=K.le;simp [lists];omega)]
     have hfuel:fuel=ops.size-n:=by
       rw [← hfu,hlist]
       simp [lists,List.filter_append]
     have hval:∀(j:Nat),∃v,∀(o:Oper) (t:Nat),j<n→ops[j]?=some o→o.dst=some t→a.tmps[t]?=some v∧F j v w:=by
       intro j
       by_cases hj:j<n
       · have hjs:j<ops.size:=Nat.lt_of_lt_of_le hj K.le
         obtain⟨t,ht⟩:=K.dst j ops[j] hj (Array.getElem?_eq_getElem hjs)
         obtain⟨v,hv,hf⟩:=i5 j _ t hj (Array.getElem?_eq_getElem hjs) ht (hl j hj)
         refine⟨v,fun o t' _ ho ht'=> ?_⟩
         rw [Array.getElem?_eq_getElem hjs] at ho
         cases ho
         rw [ht] at ht'
         cases ht'
         exact⟨hv,hf⟩
       · exact⟨undef,fun o t hj' _ _=>absurd hj' hj⟩
     obtain⟨f,hf⟩:=Classical.axiomOfChoice hval
     have hvs:∀(j:Nat) v,((List.range n).map f)[j]?=some v→j<n∧v=f j:=by
       intro j v hv
       rw [List.getElem?_map] at hv
       by_cases hj:j<n
       · rw [List.getElem?_range hj] at hv
         exact⟨hj,by simpa using hv.symm⟩
       · rw [List.getElem?_eq_none (by simpa using hj)] at hv
         simp at hv
     have hQ':=hQ ((List.range n).map f) w (by simp) (fun j v hv=>by
       obtain⟨hj,rfl⟩:=hvs j v hv
       have hjs:j<ops.size:=Nat.lt_of_lt_of_le hj K.le
       obtain⟨t,ht⟩:=K.dst j ops[j] hj (Array.getElem?_eq_getElem hjs)
       exact(hf j _ t hj (Array.getElem?_eq_getElem hjs) ht).2) (fun i j u v hne hu hv=>by
       obtain⟨hi,rfl⟩:=hvs i u hu
       obtain⟨hj,rfl⟩:=hvs j v hv
       have his:i<ops.size:=Nat.lt_of_lt_of_le hi K.le
       have hjs:j<ops.size:=Nat.lt_of_lt_of_le hj K.le
       obtain⟨s,hs⟩:=K.dst i ops[i] hi (Array.getElem?_eq_getElem his)
       obtain⟨t,ht⟩:=K.dst j ops[j] hj (Array.getElem?_eq_getElem hjs)
       exact i9 i j _ _ s t _ _ hi hj hne (Array.getElem?_eq_getElem his) (Array.getElem?_eq_getElem hjs) hs ht (hl i hi) (hl j hj) (hf i _ s hi (Array.getElem?_eq_getElem his) hs).1 (hf j _ t hj (Array.getElem?_eq_getElem hjs) ht).1) i8
     have hsame:putAll a0 (ops.toList.take n) ((List.range n).map f)=a:=by
       have hsz:=putAll_size (ops.toList.take n) ((List.range n).map f) a0
       have htm:(putAll a0 (ops.toList.take n) ((List.range n).map f)).tmps=a.tmps:=by
         apply Array.ext_getElem?
         intro t
         by_cases hex:∃(j:Nat) (o:Oper),j<n∧ops[j]?=some o∧o.dst=some t
         · obtain⟨j,o,hj,ho,ht⟩:=hex
           rw [(hf j o t hj ho ht).1]
           refine putAll_same (ops.toList.take n) _ a0 j o (f j) t (by rw [List.getElem?_take_of_lt hj];simpa using ho) (by rw [List.getElem?_map,List.getElem?_range hj];rfl) ht (hsl' o (Array.mem_of_getElem? ho) t ht) ?_
           intro i k p q hp hq hne
           have hin:i<n:=by
             have:=(List.getElem?_eq_some_iff.1 hp).1
             rw [List.length_take] at this;omega
           have hkn:k<n:=by
             have:=(List.getElem?_eq_some_iff.1 hq).1
             rw [List.length_take] at this;omega
           rw [List.getElem?_take_of_lt hin] at hp
           rw [List.getElem?_take_of_lt hkn] at hq
           exact K.apart i k p q hin hkn (by simpa using hp) (by simpa using hq) hne
         · have hno:∀p∈ops.toList.take n,p.dst≠some t:=by
             intro p hp e
             obtain⟨j,hj,hpj⟩:=(hmemT p).1 hp
             exact hex ⟨j,p,hj,hpj,e⟩
           rw [putAll_other _ _ _ _ hno,i4 t hno]
       have hdf:=hsz.2.trans i2.symm
       generalize putAll a0 (ops.toList.take n) ((List.range n).map f)=A at*
       obtain⟨x1,x2⟩:=A
       obtain⟨y1,y2⟩:=a
       simp only at htm hdf
       subst htm hdf
       rfl
     rw [hnr,Nat.add_sub_cancel_left] at hfuel
     rw [hnr] at hlist
     rw [hsame,← hlist,← hfuel] at hQ'
     exact hQ'
   intro fuel
   induction fuel with
   | zero=>
     intro listed a w hI hfu
     refine hend 0 listed a w hI hfu (fun j hj=> ?_)
     obtain⟨i1,_⟩:=hI
     have hjs:j<listed.size:=by rw [i1];exact Nat.lt_of_lt_of_le hj K.le
     cases hl:listed.getD j false with
     | true=>rfl
     | false=>
       exfalso
       have hmem:false∈listed.toList.filter (fun b=> !b):=by
         rw [List.mem_filter]
         refine⟨?_,rfl⟩
         simp only [Array.getD,hjs,dif_pos] at hl
         rw [← hl]
         exact Array.getElem_mem_toList hjs
       rw [List.length_eq_zero_iff] at hfu
       rw [hfu] at hmem
       simp at hmem
   | succ fuel ih=>
     intro listed a w hI hfu
     by_cases hfull:∀j,j<n→listed.getD j false=true
     · exact hend _ listed a w hI hfu hfull
     obtain⟨i1,i2,i3,i4,i5,i6,i7,i9,i8⟩:=hI
     have hsome:∃j,j<n∧listed.getD j false=false∧∀i,i<j→listed.getD i false=true:=by
       have:∃j,j<n∧listed.getD j false=false:=by
         apply Classical.byContradiction
         intro hno
         exact hfull (fun j hj=>by
           cases hl:listed.getD j false with
           | true=>rfl
           | false=>exact absurd ⟨j,hj,hl⟩ hno)
       obtain⟨j,hj,hl⟩:=this
       induction j using Nat.strongRecOn with
       | _ j ihj=>
         by_cases h:∀i,i<j→listed.getD i false=true
         · exact⟨j,hj,hl,h⟩
         · apply Classical.byContradiction
           intro hno
           exact h (fun i hi=>by
             cases hli:listed.getD i false with
             | true=>rfl
             | false=>exact absurd (ihj i hi (by omega) hli) hno)
     obtain⟨j0,hj0,hlj0,hbefore⟩:=hsome
     have hne:Region.ready .any ops listed≠ []:=by
       intro hr
       have hjs:j0<ops.size:=Nat.lt_of_lt_of_le hj0 K.le
       have hmem:j0∈Region.ready .any ops listed:=by
         rw [mem_ready]
         refine⟨?_,ops[j0],Array.getElem?_eq_getElem hjs,fun e he _=>hbefore e.on (K.back j0 _ hj0 (Array.getElem?_eq_getElem hjs) e he)⟩
         simp only [Array.getD] at hlj0⊢
         rw [dif_pos (by omega)] at hlj0⊢
         exact hlj0
       rw [hr] at hmem
       simp at hmem
     refine⟨fun h0=>absurd h0 hne,fun i hi=> ?_⟩
     rw [mem_ready] at hi
     obtain⟨r1,o,ho,r2⟩:=hi
     have hio:i<ops.size:=(Array.getElem?_eq_some_iff.1 ho).1
     have hil:i<listed.size:=by omega
     have hself:∀d,(listed.setIfInBounds i true).getD i d=true:=by intro d;simp [Array.getD,hil]
     have hin:i<n:=by
       apply Classical.byContradiction
       intro h
       have:=reaches_listed i6 i7 8 o (K.wait i j0 o (by omega) hj0 ho) r2
       rw [hlj0] at this
       cases this
     unfold wpOp
     rw [ho]
     have hwt:Region.wanted o (yielded ops a.tmps)=true:=by simp [Region.wanted,K.guard i o hin ho]
     simp only [hwt,if_true]
     left
     refine Oper.wp_mono ?_ (hop i o hin ho a w ?_ ?_ i8)
     · rintro a' w' ⟨v,rfl,hFv,hk,hE⟩
       refine ih _ _ _ ⟨by simpa using i1,by rw [put_defers];exact i2,by rw [put_size];exact i3,?_,?_,?_,?_,?_,i8.trans hk⟩ ?_
       · intro t ht
         rw [put_other _ _ _ _ (ht o ((hmemT o).2 ⟨i,hin,ho⟩))]
         exact i4 t ht
       · intro j p t hjn hp ht hlj
         by_cases hji:j=i
         · subst hji
           rw [ho] at hp
           cases hp
           rw [ht]
           exact⟨v,put_same _ _ _ (by rw [i3];exact hsl' o (Array.mem_of_getElem? ho) t ht),hFv⟩
         · rw [getD_set_ne _ (fun e=>hji e.symm)] at hlj
           obtain⟨u,hu,hfu'⟩:=i5 j p t hjn hp ht hlj
           refine⟨u,?_,hF _ _ _ _ hfu' hk⟩
           rw [put_other _ _ _ _ ?_]
           · exact hu
           · have:=K.apart i j o p hin hjn ho hp (fun e=>hji e.symm)
             rw [ht] at this
             exact this
       · intro j hj
         rw [getD_set_ne _ (by omega)]
         exact i6 j hj
       · intro j p hjn hp hlj e he hb
         by_cases hji:j=i
         · subst hji
           rw [ho] at hp
           cases hp
           exact getD_set_true (r2 e he hb)
         · rw [getD_set_ne _ (fun e=>hji e.symm)] at hlj
           exact getD_set_true (i7 j p hjn hp hlj e he hb)
       · have old:∀(j:Nat) (p:Oper) (t:Nat) (u:Value),j<n→j≠i→ops[j]?=some p→p.dst=some t→(listed.setIfInBounds i true).getD j false=true→(a.put o.dst v).tmps[t]?=some u→listed.getD j false=true∧a.tmps[t]?=some u:=by
           intro j p t u hjn hji hp ht hlj hu
           rw [getD_set_ne _ (fun e=>hji e.symm)] at hlj
           rw [put_other _ _ _ _ (by have:=K.apart i j o p hin hjn ho hp (fun e=>hji e.symm);rw [ht] at this;exact this)] at hu
           exact⟨hlj,hu⟩
         have new:∀(q:Oper) (t:Nat) (u:Value),ops[i]?=some q→q.dst=some t→(a.put o.dst v).tmps[t]?=some u→u=v:=by
           intro q t u hq ht hu
           rw [ho] at hq
           cases hq
           rw [ht,put_same _ _ _ (by rw [i3];exact hsl' o (Array.mem_of_getElem? ho) t ht)] at hu
           exact(Option.some.inj hu).symm
         intro j k p q s t u x hjn hkn hne hp hq hs ht hlj hlk hu hx
         by_cases hji:j=i
         · subst hji
           obtain⟨hlk',hx'⟩:=old k q t x hkn (fun e=>hne e.symm) hq ht hlk hx
           obtain rfl:=new p s u hp hs hu
           obtain⟨x',hx2,hfx⟩:=i5 k q t hkn hq ht hlk'
           rw [hx'] at hx2
           cases hx2
           exact .inr (hE k x hkn (fun e=>hne e.symm) hfx)
         · obtain⟨hlj',hu'⟩:=old j p s u hjn hji hp hs hlj hu
           by_cases hki:k=i
           · subst hki
             obtain rfl:=new q t x hq ht hx
             obtain⟨u',hu2,hfu2⟩:=i5 j p s hjn hp hs hlj'
             rw [hu'] at hu2
             cases hu2
             exact .inl (hE j u hjn hji hfu2)
           · obtain⟨hlk',hx'⟩:=old k q t x hkn hki hq ht hlk hx
             exact i9 j k p q s t u x hjn hkn hne hp hq hs ht hlj' hlk' hu' hx'
       · have:=unlisted_set' r1 hil
         omega
     · intro t ht
       have:=i4 t (fun p hp=>by
         have:=(List.all_eq_true.1 ht) p hp
         simpa using this)
       simp only [Act.eval,Array.getD_eq_getD_getElem?,this]
     · intro k t hk hpt
       obtain⟨p,hp,ht⟩:=Option.bind_eq_some_iff.1 hpt
       simp only [Array.any_eq_true'] at hk
       obtain⟨e,he,hb⟩:=hk
       simp only [Bool.and_eq_true,beq_iff_eq] at hb
       obtain⟨hb,rfl⟩:=hb
       have hen:e.on<n:=by have:=K.back i o hin ho e he;omega
       obtain⟨v,hv,hf⟩:=i5 e.on p t hen hp ht (r2 e he hb)
       have:a.eval (.tmp t)=v:=by simp [Act.eval,Array.getD_eq_getD_getElem?,hv]
       rw [this]
       exact hf
 refine main _ _ _ _ ⟨by simp,rfl,rfl,fun t _=>rfl,?_,?_,?_,?_,?_⟩ (by simp)
 · intro j o t hj ho ht hl
   simp [Array.getD,(Array.getElem?_eq_some_iff.1 ho).1] at hl
 · intro j _
   simp [Array.getD]
 · intro j o hj ho hl
   simp [Array.getD,(Array.getElem?_eq_some_iff.1 ho).1] at hl
 · intro i j p o s t u v hi hj hne hp ho hs ht hl
   simp [Array.getD,(Array.getElem?_eq_some_iff.1 hp).1] at hl
 · exact⟨rfl,rfl,rfl,Nat.le_refl _,fun _ _ _=>rfl⟩
end
def aggV (vs:List Value):Value:= .agg vs.toArray
def Row (T n:Nat):Prop:=∃d,Try.prog.underlying T=some d∧d.isRow=true∧(Try.prog.info? T).map (·.size)=some n
def Blk (w:World) (b T:Nat) (vs:List Value):Prop:=w.heap[b]?=some (.cells vs.toArray T (0,0))
theorem Blk.new (w:World) (T:Nat) (vs:List Value):Blk (w.alloc (.cells vs.toArray T)) w.heap.size T vs:=heap_alloc_new w _
theorem Blk.lt {w:World} {b T:Nat} {vs:List Value} (h:Blk w b T vs):b<w.heap.size:=lt_of_block h
theorem Blk.kept {w w':World} {b T:Nat} {vs:List Value} {X:List Nat} (h:Blk w b T vs) (hk:Kept X w w') (hb:b∉X):Blk w' b T vs:=hk.heap h hb
theorem Blk.drew {w:World} {b T:Nat} {vs:List Value} (h:Blk w b T vs):Blk w.drew b T vs:=h
theorem Blk.put {w:World} {b T:Nat} {us vs:List Value} (h:Blk w b T us) (hl:us.length=vs.length):Blk (w.setCells b 0 vs) b T vs:=by
 have:=heap_sets (b:=b) (t:=T) (p:=(0,0)) vs w 0 [] us [] (by simpa [Blk] using h) rfl hl
 simpa [Blk] using this
theorem Blk.part {w:World} {b T o:Nat} {pre mid post vs:List Value} (h:Blk w b T (pre++mid++post)) (ho:pre.length=o) (hl:mid.length=vs.length):Blk (w.setCells b o vs) b T (pre++vs++post):=
 heap_sets vs w o pre mid post h ho hl
theorem Blk.set {w:World} {b T i:Nat} {us:List Value} (h:Blk w b T us) (v:Value):Blk (w.setCell ⟨b,i,none⟩ v) b T (us.set i v):=by
 unfold Blk;rw [heap_set h,List.setIfInBounds_toArray]
theorem Blk.cell {w:World} {b T:Nat} {us:List Value} (h:Blk w b T us) (i:Nat):w.cell? ⟨b,i,none⟩=us[i]?:=by rw [cell_of_block h,List.getElem?_toArray]
theorem Blk.frozen {w:World} {b T:Nat} {us:List Value} (h:Blk w b T us) (i:Nat):w.frozen? ⟨b,i,none⟩=false:=frozen_of_block h i
theorem Blk.range {w:World} {b T:Nat} {us:List Value} (h:Blk w b T us):w.rangeAt b 0 us:=fun j v hj=>by rw [Nat.zero_add,h.cell];exact hj
theorem Blk.rangeIn {w:World} {b T o:Nat} {us:List Value} (h:Blk w b T us) (vs:List Value) (hv:∀j,j<vs.length→us[o+j]?=vs[j]?):w.rangeAt b o vs:=fun j v hj=>by
 rw [h.cell,hv j (List.getElem?_eq_some_iff.1 hj).1];exact hj
theorem Blk.there {w:World} {b T o n:Nat} {us:List Value} (h:Blk w b T us) (hn:o+n≤us.length):w.there b o n:=fun j hj=>
 ⟨by rw [h.cell,List.getElem?_eq_getElem (by omega)];rfl,h.frozen _⟩
section
variable {ops:Array Oper} {rest:List Oper} {op:Oper} {a:Act} {w:World} {Q:Exit→Act→World→Prop}
theorem wpLoadA {T n:Nat} (hT:Row T n) (hgd:op.guard=none) (x:Operand) (ho:op.op= .load T x) (b o:Nat) (hx:a.eval x= .pointer (some ⟨b,o,none⟩)) (vs:List Value) (hl:vs.length=n) (hA:w.rangeAt b o vs)
   (h:wpList Try.prog ops Q rest (a.put op.dst (aggV vs)) w):wpList Try.prog ops Q (op::rest) a w:=by
 obtain⟨d,h1,h2,h3⟩:=hT
 exact wpList_load_mid (P:=Try.prog) hgd T x ho b o hx vs d hA h1 h2 (by rw [hl];exact h3) h
theorem wpStoreA {T n:Nat} (hT:Row T n) (hgd:op.guard=none) (x y:Operand) (ho:op.op= .store T x y) (b o:Nat) (vs:List Value) (hx:a.eval x= .pointer (some ⟨b,o,none⟩)) (hy:a.eval y=aggV vs) (hl:vs.length=n) (h1:∀v∈vs,v.oneCell'=true) (hA:w.there b o n)
   (h:wpList Try.prog ops Q rest (a.put op.dst undef) (w.setCells b o vs)):wpList Try.prog ops Q (op::rest) a w:=by
 obtain⟨d,g1,g2,g3⟩:=hT
 exact wpList_store_mid (P:=Try.prog) hgd T x y ho b o vs.toArray hx hy (by simpa [hl] using hA) (by simpa [hl] using g3) (all_oneCell_toArray h1) h
theorem wpAllocA {T:Nat} (vs:List Value) (hr:∀w:World,(Instr.alloc T true (.tuple #[])).run Try.prog w= .ok (P0 w.heap.size) (w.alloc (.cells vs.toArray T))) (hgd:op.guard=none) (ho:op.op= .alloc T)
   (h:wpList Try.prog ops Q rest (a.put op.dst (P0 w.heap.size)) (w.alloc (.cells vs.toArray T))):wpList Try.prog ops Q (op::rest) a w:=
 wpList_plain hgd fun K hK=>by
   unfold Oper.wp execOp
   simp only [ho,Sem.run_bind,hr,Result.andThen_ok]
   exact hK _ _ h
theorem wpBuildZ {T:Nat} (vs:List Value) (hr:∀w:World,(Instr.build T #[]).run Try.prog w= .ok (aggV vs) w) (hgd:op.guard=none) (ho:op.op= .build T #[])
   (h:wpList Try.prog ops Q rest (a.put op.dst (aggV vs)) w):wpList Try.prog ops Q (op::rest) a w:=
 wpList_plain hgd fun K hK=>by
   unfold Oper.wp execOp
   simp only [ho,Array.map_empty,Sem.run_bind,hr,Result.andThen_ok]
   exact hK _ _ h
theorem run_boxA (T:Nat) (w:World) (vs:List Value):(Instr.box T (aggV vs)).run Try.prog w= .ok (P0 w.heap.size) (w.alloc (.cells vs.toArray T)):=by
 simp [Instr.box,aggV,newVar,newRow,Value.cells]
theorem wpBoxA {T:Nat} (hgd:op.guard=none) (x:Operand) (ho:op.op= .box T x) (vs:List Value) (hx:a.eval x=aggV vs)
   (h:wpList Try.prog ops Q rest (a.put op.dst (P0 w.heap.size)) (w.alloc (.cells vs.toArray T))):wpList Try.prog ops Q (op::rest) a w:=
 wpList_plain hgd fun K hK=>by
   unfold Oper.wp execOp
   simp only [ho,hx,Sem.run_bind,run_boxA,Result.andThen_ok]
   exact hK _ _ h
theorem wpNeqA (T r:Nat) (hG:Try.prog.eqGuardType Try.prog.depth T=false) (x y:Operand) (hgd:op.guard=none) (ho:op.op= .binOp .neq T x y r) (vs us:List Value) (hx:a.eval x=aggV vs) (hy:a.eval y=aggV us) (c:Bool)
   (he:(Op.equal T (aggV vs) (aggV us)).run Try.prog w= .ok c w)
   (h:wpList Try.prog ops Q rest (a.put op.dst (.bool (!c))) w):wpList Try.prog ops Q (op::rest) a w:=
 wpList_plain hgd fun K hK=>by
   unfold Oper.wp execOp
   simp only [aggV] at he hx hy
   have hg:(eqGuard .neq T x y (.agg vs.toArray) (.agg us.toArray)).run Try.prog w= .ok () w:=by simp [eqGuard,Sem.run_bind,hG]
   have hb:(binOp BinOp.neq T (.agg vs.toArray) (.agg us.toArray)).run Try.prog w= .ok (.bool (!c)) w:=by simp only [binOp,Sem.run_bind,he,Result.andThen_ok,Sem.run_pure]
   simp only [ho,hx,hy,Sem.run_bind,hg,hb,Result.andThen_ok]
   exact hK _ _ h
end
theorem fields_nil (W:World) (d:Nat) (xs ys:Array Value):(Op.eqFields d xs ys []).run Try.prog W= .ok true W:=by simp [Op.eqFields]
theorem fields_step (W : World) (d T o : Nat) (xs ys : Array Value) (f : Field) (fs : List Field) (a b : Value) (c e : Bool) (hn : f.name ≠ "_") (hT : f.type = T) (ho : f.offset = o) (pa : (part T xs o).run Try.prog W = .ok a W) (pb : (part T ys o).run Try.prog W = .ok b W) (he : (Op.equalIn d T a b).run Try.prog W = .ok c W) (hf : (Op.eqFields d xs ys fs).run Try.prog W = .ok e W) :
   (Op.eqFields d xs ys (f::fs)).run Try.prog W= .ok (c&&e) W:=by
 subst hT ho
 simp only [Op.eqFields,ne_eq,hn,not_false_eq_true,if_true,Sem.run_bind,pa,pb,he,Result.andThen_ok]
 cases c <;> simp [hf]
theorem eq2 (W:World) (d:Nat) (x y:Int):(Op.equalIn (d+1) 2 (.int .i64 x) (.int .i64 y)).run Try.prog W= .ok (decide (x=y)) W:=by
 simp [Op.equalIn,Sem.run_bind,run_underlying Try.underlying2]
 rw [Bool.eq_iff_iff];simp
theorem eq3 (W:World) (d:Nat) (x y:Int):(Op.equalIn (d+1) 3 (.int .i64 x) (.int .i64 y)).run Try.prog W= .ok (decide (x=y)) W:=by
 simp [Op.equalIn,Sem.run_bind,run_underlying Try.underlying3]
 rw [Bool.eq_iff_iff];simp
theorem part2 (W:World) (vs:Array Value) (o:Nat) (v:Value) (h:vs[o]?=some v):(part 2 vs o).run Try.prog W= .ok v W:=by simp [part,isAgg,run_underlying Try.underlying2,h]
theorem part3 (W:World) (vs:Array Value) (o:Nat) (v:Value) (h:vs[o]?=some v):(part 3 vs o).run Try.prog W= .ok v W:=by simp [part,isAgg,run_underlying Try.underlying3,h]
theorem loadV {w:World} {b T n:Nat} {vs:List Value} (hT:Row T n) (hl:vs.length=n) (h:Blk w b T vs):(loadVar T ⟨b,0,none⟩).run Try.prog w= .ok (aggV vs) w:=by
 obtain⟨d,h1,h2,h3⟩:=hT
 exact run_loadVar_mid (P:=Try.prog) w b 0 T vs d h.range h1 h2 (by rw [hl];exact h3)
theorem ret_bool {a b:Bool} (h:a=true↔b=true):Ending.returned (Value.bool a)= .returned (.bool b):=by rw [Bool.eq_iff_iff.2 h]
theorem fits_cell {w:World} {b T:Nat} {vs:List Value} (h:Blk w b T vs) (i:Nat) (v:Value) (hi:vs[i]?=some v):w.cell? ⟨b,i,none⟩=some v:=by rw [h.cell];exact hi
theorem wpNew {ops:Array Oper} {rest:List Oper} {o1 o2:Oper} {a:Act} {w:World} {Q:Exit→Act→World→Prop} {T n:Nat} (hT:Row T n) (zv:List Value) (hz:zv.length=n) (hr:∀w:World,(Instr.alloc T true (.tuple #[])).run Try.prog w= .ok (P0 w.heap.size) (w.alloc (.cells zv.toArray T)))
   (d:Nat) (hd:o1.dst=some d) (hg1:o1.guard=none) (ho1:o1.op= .alloc T) (y:Operand) (hg2:o2.guard=none) (ho2:o2.op= .store T (.tmp d) y) (hd2:o2.dst=none)
   (vs:List Value) (hl:vs.length=n) (h1:∀v∈vs,v.oneCell'=true) (hx:(a.put (some d) (P0 w.heap.size)).eval (.tmp d)=P0 w.heap.size) (hy:(a.put (some d) (P0 w.heap.size)).eval y=aggV vs)
   (h:∀W b,b=w.heap.size→Blk W b T vs→Kept [] w W→wpList Try.prog ops Q rest (a.put (some d) (P0 b)) W):wpList Try.prog ops Q (o1::o2::rest) a w:=by
 refine wpAllocA zv hr hg1 ho1 ?_
 rw [hd]
 have hb:Blk (w.alloc (.cells zv.toArray T)) w.heap.size T zv:=Blk.new w T zv
 refine wpStoreA hT hg2 (.tmp d) y ho2 w.heap.size 0 vs hx hy hl h1 (hb.there (by omega)) ?_
 rw [hd2]
 exact h _ _ rfl (hb.put (by omega)) (((Kept.refl _ _).alloc _).setCells _ _ (by omega))
section
variable {ops:Array Oper} {rest:List Oper} {op:Oper} {a:Act} {w:World} {Q:Exit→Act→World→Prop}
theorem wpBoxV {T:Nat} (hgd:op.guard=none) (x:Operand) (ho:op.op= .box T x) (vs:List Value) (hx:a.eval x=aggV vs)
   (h:∀W b,b=w.heap.size→Blk W b T vs→Kept [] w W→wpList Try.prog ops Q rest (a.put op.dst (P0 b)) W):wpList Try.prog ops Q (op::rest) a w:=
 wpBoxA hgd x ho vs hx (h _ _ rfl (Blk.new w T vs) ((Kept.refl _ _).alloc _))
theorem wpAllocW {T:Nat} (vs:List Value) (hr:∀w:World,(Instr.alloc T true (.tuple #[])).run Try.prog w= .ok (P0 w.heap.size) (w.alloc (.cells vs.toArray T))) (d:Nat) (_:op.dst=some d) (hgd:op.guard=none) (ho:op.op= .alloc T)
   (h:∀W b,b=w.heap.size→Blk W b T vs→Kept [] w W→wpList Try.prog ops Q rest (a.put op.dst (P0 b)) W):wpList Try.prog ops Q (op::rest) a w:=
 wpAllocA vs hr hgd ho (h _ _ rfl (Blk.new w T vs) ((Kept.refl _ _).alloc _))
end
section
variable {o:Oper} {a:Act} {w:World} {K:Act→World→Prop} {Q:Exit→Act→World→Prop}
theorem wp_loadA {T n:Nat} (hT:Row T n) (x:Operand) (ho:o.op= .load T x) (b off:Nat) (hx:a.eval x= .pointer (some ⟨b,off,none⟩)) (vs:List Value) (hl:vs.length=n) (hA:w.rangeAt b off vs)
   (h:K (a.put o.dst (aggV vs)) w):o.wp Try.prog a w K Q:=by
 obtain⟨d,h1,h2,h3⟩:=hT
 exact wp_load_mid (P:=Try.prog) T x ho b off hx vs d hA h1 h2 (by rw [hl];exact h3) h
theorem wp_storeA {T n:Nat} (hT:Row T n) (x y:Operand) (ho:o.op= .store T x y) (b off:Nat) (vs:List Value) (hx:a.eval x= .pointer (some ⟨b,off,none⟩)) (hy:a.eval y=aggV vs) (hl:vs.length=n) (h1:∀v∈vs,v.oneCell'=true) (hA:w.there b off n)
   (h:K (a.put o.dst undef) (w.setCells b off vs)):o.wp Try.prog a w K Q:=by
 obtain⟨d,g1,g2,g3⟩:=hT
 exact wp_store_mid (P:=Try.prog) T x y ho b off vs.toArray hx hy (by simpa [hl] using hA) (by simpa [hl] using g3) (all_oneCell_toArray h1) h
theorem wp_storeN {T n:Nat} (hT:Row T n) (x y:Operand) (ho:o.op= .store T x y) (hd:o.dst=none) (b off:Nat) (vs:List Value) (hx:a.eval x= .pointer (some ⟨b,off,none⟩)) (hy:a.eval y=aggV vs) (hl:vs.length=n) (h1:∀v∈vs,v.oneCell'=true) (hA:w.there b off n)
   (h:K a (w.setCells b off vs)):o.wp Try.prog a w K Q:=by
 refine wp_storeA hT x y ho b off vs hx hy hl h1 hA ?_
 rw [hd]
 exact h
theorem wp_callF {P:Program} (f:FuncId) (args:Array Operand) (ts:Array TypeId) (ho:o.op= .call { callee:= .value (.func f),args:=args,argTypes:=ts })
   (vs:Array Value) (hv:args.map a.eval=vs) (hcf:(callFunc f vs).run P w= .ok (.enter f vs) w) (h:Calls P f vs w fun e w'=>∃v,e= .returned v∧K (a.put o.dst v) w'):o.wp P a w K Q:=by
 subst hv
 unfold Oper.wp execOp
 simp only [ho]
 simp [resolve,invoke,go_sem,hcf]
 refine h.mono ?_
 rintro e w' ⟨v,rfl,hk⟩
 exact hk
end
theorem wpBuildP {ops:Array Oper} {rest:List Oper} {op:Oper} {a:Act} {w:World} {Q:Exit→Act→World→Prop} {T:Nat} (hgd:op.guard=none) (parts:Array (Nat×Operand)) (ho:op.op= .build T parts) (ps:Array (Nat×Value)) (hp:(parts.map fun(i,x)=>(i,a.eval x))=ps) (vs:List Value)
   (hr:(Instr.build T ps).run Try.prog w= .ok (aggV vs) w) (h:wpList Try.prog ops Q rest (a.put op.dst (aggV vs)) w):wpList Try.prog ops Q (op::rest) a w:=
 wpList_plain hgd fun K hK=>by
   subst hp
   unfold Oper.wp execOp
   simp only [ho,Sem.run_bind,hr,Result.andThen_ok]
   exact hK _ _ h
theorem wpOp_of {P:Program} {ops:Array Oper} {o:Oper} {a:Act} {w:World} {K:Act→World→Prop} {Q:Exit→Act→World→Prop} {i:Nat} (ho:ops[i]?=some o) (hg:o.guard=none) (h:o.wp P a w K Q):wpOp P ops Q i K a w:=by
 unfold wpOp
 rw [ho]
 have hw:Region.wanted o (yielded ops a.tmps)=true:=by simp [Region.wanted,hg]
 simp only [hw,if_true]
 exact .inl h
theorem mixed:Try.prog.follows .mixedOrders=true:=by kernel_rfl
section
variable {ops:Array Oper} {rest:List Oper} {op:Oper} {a:Act} {w:World} {Q:Exit→Act→World→Prop}
theorem wpBuildG {T:Nat} (parts:Array (Nat×Operand)) (ho:op.op= .build T parts) (hw:Region.wanted op (yielded ops a.tmps)=true) (ps:Array (Nat×Value)) (hp:(parts.map fun(i,x)=>(i,a.eval x))=ps) (vs:List Value)
   (hr:(Instr.build T ps).run Try.prog w= .ok (aggV vs) w) (h:wpList Try.prog ops Q rest (a.put op.dst (aggV vs)) w):wpList Try.prog ops Q (op::rest) a w:=
 BigFrame.wpList_want hw fun K hK=>by
   subst hp
   unfold Oper.wp execOp
   simp only [ho,Sem.run_bind,hr,Result.andThen_ok]
   exact hK _ _ h
theorem wpNeqG (T r:Nat) (hG:Try.prog.eqGuardType Try.prog.depth T=false) (x y:Operand) (ho:op.op= .binOp .neq T x y r) (hw:Region.wanted op (yielded ops a.tmps)=true) (vs us:List Value) (hx:a.eval x=aggV vs) (hy:a.eval y=aggV us) (c:Bool)
   (he:(Op.equal T (aggV vs) (aggV us)).run Try.prog w= .ok c w)
   (h:wpList Try.prog ops Q rest (a.put op.dst (.bool (!c))) w):wpList Try.prog ops Q (op::rest) a w:=
 BigFrame.wpList_want hw fun K hK=>by
   unfold Oper.wp execOp
   simp only [aggV] at he hx hy
   have hg:(eqGuard .neq T x y (.agg vs.toArray) (.agg us.toArray)).run Try.prog w= .ok () w:=by simp [eqGuard,Sem.run_bind,hG]
   have hb:(binOp BinOp.neq T (.agg vs.toArray) (.agg us.toArray)).run Try.prog w= .ok (.bool (!c)) w:=by simp only [binOp,Sem.run_bind,he,Result.andThen_ok,Sem.run_pure]
   simp only [ho,hx,hy,Sem.run_bind,hg,hb,Result.andThen_ok]
   exact hK _ _ h
theorem wpEqlG (T r:Nat) (hG:Try.prog.eqGuardType Try.prog.depth T=false) (x y:Operand) (ho:op.op= .binOp .eql T x y r) (hw:Region.wanted op (yielded ops a.tmps)=true) (vs us:List Value) (hx:a.eval x=aggV vs) (hy:a.eval y=aggV us) (c:Bool)
   (he:(Op.equal T (aggV vs) (aggV us)).run Try.prog w= .ok c w)
   (h:wpList Try.prog ops Q rest (a.put op.dst (.bool c)) w):wpList Try.prog ops Q (op::rest) a w:=
 BigFrame.wpList_want hw fun K hK=>by
   unfold Oper.wp execOp
   simp only [aggV] at he hx hy
   have hg:(eqGuard .eql T x y (.agg vs.toArray) (.agg us.toArray)).run Try.prog w= .ok () w:=by simp [eqGuard,Sem.run_bind,hG]
   have hb:(binOp BinOp.eql T (.agg vs.toArray) (.agg us.toArray)).run Try.prog w= .ok (.bool c) w:=by simp only [binOp,Sem.run_bind,he,Result.andThen_ok,Sem.run_pure]
   simp only [ho,hx,hy,Sem.run_bind,hg,hb,Result.andThen_ok]
   exact hK _ _ h
end
theorem wp_assign {o:Oper} {a:Act} {w:World} {K:Act→World→Prop} {Q:Exit→Act→World→Prop} (x:Operand) (ho:o.op= .assign x) (h:K (a.put o.dst (a.eval x)) w):o.wp Try.prog a w K Q:=by
 unfold Oper.wp execOp
 simp only [ho]
 exact h
section
variable {P:Program} {ops:Array Oper} {Q:Exit→Act→World→Prop}
end
def prefG (ops:Array Oper) (n:Nat):Bool:=
 decide (n≤ops.size)&&(List.range n).all (fun j=>match ops[j]? with
   | none=>false
   | some o=>(match o.guard with | none=>true | some (i,_)=>o.after.any (fun e=>Region.binds .any e&&e.on == i))&&o.dst.isSome&&o.after.all (fun e=>decide (e.on<j))&&(List.range j).all (fun i=>match ops[i]? with
     | none=>false
     | some p=>p.dst !=o.dst))&&
 (List.range ops.size).all (fun j=>decide (j<n)||(match ops[j]? with
   | none=>false
   | some o=>(List.range n).all (fun i=>reaches ops i 8 o)))
section
variable {P:Program} {ops:Array Oper} {Q:Exit→Act→World→Prop}
structure PrefG (ops:Array Oper) (n:Nat):Prop where
 le:n≤ops.size
 guard:∀(j:Nat) (o:Oper) (i:Nat) (b:Bool),j<n→ops[j]?=some o→o.guard=some (i,b)→∃e∈o.after,Region.binds .any e=true∧e.on=i
 dst:∀(j:Nat) (o:Oper),j<n→ops[j]?=some o→∃t,o.dst=some t
 back:∀(j:Nat) (o:Oper),j<n→ops[j]?=some o→∀e∈o.after,e.on<j
 apart:∀(i j:Nat) (p o:Oper),i<n→j<n→ops[i]?=some p→ops[j]?=some o→i≠j→p.dst≠o.dst
 wait:∀(j i:Nat) (o:Oper),n≤j→i<n→ops[j]?=some o→reaches ops i 8 o=true
theorem prefG_spec {n:Nat} (h:prefG ops n=true):PrefG ops n:=by
 unfold prefG at h
 rw [Bool.and_eq_true,Bool.and_eq_true] at h
 obtain⟨⟨h0,h1⟩,h2⟩:=h
 have h0:=of_decide_eq_true h0
 rw [List.all_eq_true] at h1 h2
 have g1:∀(j:Nat) (o:Oper),j<n→ops[j]?=some o→((match o.guard with | none=>true | some (i,_)=>o.after.any (fun e=>Region.binds .any e&&e.on == i))&&o.dst.isSome&&o.after.all (fun e=>decide (e.on<j))&&(List.range j).all (fun i=>match ops[i]? with
     | none=>false
     | some p=>p.dst !=o.dst))=true:=by
   intro j o hj ho
   have:=h1 j (List.mem_range.2 hj)
   rw [ho] at this
   exact this
 have lt:∀(i j:Nat) (p o:Oper),j<n→ops[i]?=some p→ops[j]?=some o→i<j→p.dst≠o.dst:=by
   intro i j p o hj hp ho hij
   have:=g1 j o hj ho
   rw [Bool.and_eq_true,List.all_eq_true] at this
   have:=this.2 i (List.mem_range.2 hij)
   rw [hp] at this
   simpa using this
 refine⟨h0,?_,?_,?_,?_,?_⟩
 · intro j o i b hj ho hg
   have:=g1 j o hj ho
   simp only [Bool.and_eq_true] at this
   have:=this.1.1.1
   rw [hg] at this
   simp only [Array.any_eq_true'] at this
   obtain⟨e,he,hb⟩:=this
   simp only [Bool.and_eq_true,beq_iff_eq] at hb
   exact⟨e,he,hb.1,hb.2⟩
 · intro j o hj ho
   have:=g1 j o hj ho
   simp only [Bool.and_eq_true] at this
   exact Option.isSome_iff_exists.1 this.1.1.2
 · intro j o hj ho e he
   have:=g1 j o hj ho
   simp only [Bool.and_eq_true] at this
   have:=(Array.all_eq_true_iff_forall_mem.1 this.1.2) e he
   simpa using this
 · intro i j p o hi hj hp ho hne
   rcases Nat.lt_or_gt_of_ne hne with h | h
   · exact lt i j p o hj hp ho h
   · exact(lt j i o p hi ho hp h).symm
 · intro j i o hj hi ho
   have:=h2 j (List.mem_range.2 (Array.getElem?_eq_some_iff.1 ho).1)
   rw [ho,decide_eq_false (by omega),Bool.false_or] at this
   simp only [List.all_eq_true] at this
   exact this i (List.mem_range.2 hi)
end
def boolOf:Value→Option Bool
 | .bool c=>some c
 | _=>none
theorem wanted_no {o:Oper} {ops:Array Oper} {tmps:Array Value} {k:Nat} {b:Bool} {v:Value} (hg:o.guard=some (k,b)) (hy:yielded ops tmps k=boolOf v) (h:v≠ .bool b):Region.wanted o (yielded ops tmps)=false:=by
 have h2:boolOf v≠some b:=by
   intro e
   unfold boolOf at e
   split at e
   · exact h (by rw [Option.some.inj e])
   · cases e
 simp [Region.wanted,hg,hy]
 exact h2
theorem yielded_of {ops:Array Oper} {tmps:Array Value} {k t:Nat} {v:Value} (hk:k<ops.size) (ht:ops[k].dst=some t) (hv:tmps[t]?=some v):yielded ops tmps k=boolOf v:=by
 unfold yielded boolOf
 simp only [Array.getElem?_eq_getElem hk,Option.bind_some,ht,hv]
 cases v <;> rfl
section
variable {P:Program} {ops:Array Oper} {Q:Exit→Act→World→Prop}
theorem wpAny_prefS {a0:Act} {w0:World} (n r:Nat) (hnr:ops.size=n+r) (hok:prefG ops n=true) (F:Nat→Value→World→Prop) (E:Nat→Nat→Value→Value→Prop)
   (skip:Nat→Bool) (hgd:∀(j:Nat) (o:Oper) (i:Nat) (b:Bool),j<n→ops[j]?=some o→o.guard=some (i,b)→(skip j=false∧∀v w,F i v w→v= .bool b)∨(skip j=true∧∀v w,F i v w→v≠ .bool b))
   (hng:∀(j:Nat) (o:Oper),j<n→ops[j]?=some o→o.guard=none→skip j=false) (hun:∀j w,skip j=true→F j undef w) (hunE:∀i j u,skip j=true→E i j u undef)
   (hF:∀j v w w',F j v w→Kept [] w w'→F j v w') (hsl:ops.all (fun o=>match o.dst with | none=>true | some t=>decide (t<a0.tmps.size))=true)
   (hop:∀(j:Nat) (o:Oper),j<n→skip j=false→ops[j]?=some o→∀a w,(∀t:Nat,(ops.toList.take n).all (fun p=>p.dst !=some t)=true→a.eval (.tmp t)=a0.eval (.tmp t))→
     (∀(i t:Nat),o.after.any (fun e=>Region.binds .any e&&e.on == i)=true→ops[i]?.bind (·.dst)=some t→F i (a.eval (.tmp t)) w)→Kept [] w0 w→
     o.wp P a w (fun a' w'=>∃v,a'=a.put o.dst v∧F j v w'∧Kept [] w w'∧∀i u,i<n→i≠j→F i u w→E i j u v) Q)
   (hQ:∀(vs:List Value) w,vs.length=n→(∀(j:Nat) v,vs[j]?=some v→F j v w)→(∀(i j:Nat) u v,i≠j→vs[i]?=some u→vs[j]?=some v→E i j u v∨E j i v u)→Kept [] w0 w→wpAny P .any ops Q r (lists n (n+r)) (putAll a0 (ops.toList.take n) vs) w):
   wpAny P .any ops Q ops.size (Array.replicate ops.size false) a0 w0:=by
 have K:=prefG_spec hok
 have hsl':∀o∈ops,∀t,o.dst=some t→t<a0.tmps.size:=by
   intro o ho t ht
   have:=(Array.all_eq_true_iff_forall_mem.1 hsl) o ho
   rw [ht] at this
   simpa using this
 have hmemT:∀o,o∈ops.toList.take n↔∃j,j<n∧ops[j]?=some o:=by
   intro o
   rw [List.mem_iff_getElem?]
   constructor
   · rintro ⟨j,hj⟩
     have hjn:j<n:=by
       have:=(List.getElem?_eq_some_iff.1 hj).1
       rw [List.length_take] at this
       omega
     rw [List.getElem?_take_of_lt hjn] at hj
     exact⟨j,hjn,by simpa using hj⟩
   · rintro ⟨j,hjn,hj⟩
     exact⟨j,by rw [List.getElem?_take_of_lt hjn];simpa using hj⟩
 let I:Array Bool→Act→World→Prop:=fun listed a w=>
   listed.size=ops.size∧a.defers=a0.defers∧a.tmps.size=a0.tmps.size∧(∀t,(∀p∈ops.toList.take n,p.dst≠some t)→a.tmps[t]?=a0.tmps[t]?)∧
   (∀(j:Nat) (o:Oper) (t:Nat),j<n→ops[j]?=some o→o.dst=some t→listed.getD j false=true→∃v,a.tmps[t]?=some v∧F j v w)∧
   (∀j,n≤j→listed.getD j false=false)∧(∀(j:Nat) (o:Oper),j<n→ops[j]?=some o→listed.getD j false=true→∀e∈o.after,Region.binds .any e=true→listed.getD e.on false=true)∧(∀(i j:Nat) (p o:Oper) (s t:Nat) (u v:Value),i<n→j<n→i≠j→ops[i]?=some p→ops[j]?=some o→p.dst=some s→o.dst=some t→listed.getD i false=true→listed.getD j false=true→a.tmps[s]?=some u→a.tmps[t]?=some v→E i j u v∨E j i v u)∧Kept [] w0 w
 have main:∀fuel listed a w,I listed a w→(listed.toList.filter (fun b=> !b)).length=fuel→wpAny P .any ops Q fuel listed a w:=by
   have hend:∀fuel listed a w,I listed a w→(listed.toList.filter (fun b=> !b)).length=fuel→(∀j,j<n→listed.getD j false=true)→wpAny P .any ops Q fuel listed a w:=by
     intro fuel listed a w hI hfu hl
     obtain⟨i1,i2,i3,i4,i5,i6,i7,i9,i8⟩:=hI
     have hlist:listed=lists n ops.size:=by
       apply Array.ext_getElem?
       intro j
       by_cases hj:j<ops.size
       · have e:listed[j]?=some (listed.getD j false):=by simp [Array.getD,i1,hj]
         rw [e]
         unfold lists
         rw [List.getElem?_toArray]
         by_cases hjn:j<n
         · rw [hl j hjn,List.getElem?_append_left (by simpa using hjn),List.getElem?_replicate_of_lt hjn]
         · rw [i6 j (by omega),List.getElem?_append_right (by simp;omega),List.getElem?_replicate_of_lt (by simp;omega)]
       · rw [Array.getElem?_eq_none (by omega),Array.getElem?_eq_none (by have:=K.le;simp [lists];omega)]
     have hfuel:fuel=ops.size-n:=by
       rw [← hfu,hlist]
       simp [lists,List.filter_append]
     have hval:∀(j:Nat),∃v,∀(o:Oper) (t:Nat),j<n→ops[j]?=some o→o.dst=some t→a.tmps[t]?=some v∧F j v w:=by
       intro j
       by_cases hj:j<n
       · have hjs:j<ops.size:=Nat.lt_of_lt_of_le hj K.le
         obtain⟨t,ht⟩:=K.dst j ops[j] hj (Array.getElem?_eq_getElem hjs)
         obtain⟨v,hv,hf⟩:=i5 j _ t hj (Array.getElem?_eq_getElem hjs) ht (hl j hj)
         refine⟨v,fun o t' _ ho ht'=> ?_⟩
         rw [Array.getElem?_eq_getElem hjs] at ho
         cases ho
         rw [ht] at ht'
         cases ht'
         exact⟨hv,hf⟩
       · exact⟨undef,fun o t hj' _ _=>absurd hj' hj⟩
     obtain⟨f,hf⟩:=Classical.axiomOfChoice hval
     have hvs:∀(j:Nat) v,((List.range n).map f)[j]?=some v→j<n∧v=f j:=by
       intro j v hv
       rw [List.getElem?_map] at hv
       by_cases hj:j<n
       · rw [List.getElem?_range hj] at hv
         exact⟨hj,by simpa using hv.symm⟩
       · rw [List.getElem?_eq_none (by simpa using hj)] at hv
         simp at hv
     have hQ':=hQ ((List.range n).map f) w (by simp) (fun j v hv=>by
       obtain⟨hj,rfl⟩:=hvs j v hv
       have hjs:j<ops.size:=Nat.lt_of_lt_of_le hj K.le
       obtain⟨t,ht⟩:=K.dst j ops[j] hj (Array.getElem?_eq_getElem hjs)
       exact(hf j _ t hj (Array.getElem?_eq_getElem hjs) ht).2) (fun i j u v hne hu hv=>by
       obtain⟨hi,rfl⟩:=hvs i u hu
       obtain⟨hj,rfl⟩:=hvs j v hv
       have his:i<ops.size:=Nat.lt_of_lt_of_le hi K.le
       have hjs:j<ops.size:=Nat.lt_of_lt_of_le hj K.le
       obtain⟨s,hs⟩:=K.dst i ops[i] hi (Array.getElem?_eq_getElem his)
       obtain⟨t,ht⟩:=K.dst j ops[j] hj (Array.getElem?_eq_getElem hjs)
       exact i9 i j _ _ s t _ _ hi hj hne (Array.getElem?_eq_getElem his) (Array.getElem?_eq_getElem hjs) hs ht (hl i hi) (hl j hj) (hf i _ s hi (Array.getElem?_eq_getElem his) hs).1 (hf j _ t hj (Array.getElem?_eq_getElem hjs) ht).1) i8
     have hsame:putAll a0 (ops.toList.take n) ((List.range n).map f)=a:=by
       have hsz:=putAll_size (ops.toList.take n) ((List.range n).map f) a0
       have htm:(putAll a0 (ops.toList.take n) ((List.range n).map f)).tmps=a.tmps:=by
         apply Array.ext_getElem?
         intro t
         by_cases hex:∃(j:Nat) (o:Oper),j<n∧ops[j]?=some o∧o.dst=some t
         · obtain⟨j,o,hj,ho,ht⟩:=hex
           rw [(hf j o t hj ho ht).1]
           refine putAll_same (ops.toList.take n) _ a0 j o (f j) t (by rw [List.getElem?_take_of_lt hj];simpa using ho) (by rw [List.getElem?_map,List.getElem?_range hj];rfl) ht (hsl' o (Array.mem_of_getElem? ho) t ht) ?_
           intro i k p q hp hq hne
           have hin:i<n:=by
             have:=(List.getElem?_eq_some_iff.1 hp).1
             rw [List.length_take] at this;omega
           have hkn:k<n:=by
             have:=(List.getElem?_eq_some_iff.1 hq).1
             rw [List.length_take] at this;omega
           rw [List.getElem?_take_of_lt hin] at hp
           rw [List.getElem?_take_of_lt hkn] at hq
           exact K.apart i k p q hin hkn (by simpa using hp) (by simpa using hq) hne
         · have hno:∀p∈ops.toList.take n,p.dst≠some t:=by
             intro p hp e
             obtain⟨j,hj,hpj⟩:=(hmemT p).1 hp
             exact hex ⟨j,p,hj,hpj,e⟩
           rw [putAll_other _ _ _ _ hno,i4 t hno]
       have hdf:=hsz.2.trans i2.symm
       generalize putAll a0 (ops.toList.take n) ((List.range n).map f)=A at*
       obtain⟨x1,x2⟩:=A
       obtain⟨y1,y2⟩:=a
       simp only at htm hdf
       subst htm hdf
       rfl
     rw [hnr,Nat.add_sub_cancel_left] at hfuel
     rw [hnr] at hlist
     rw [hsame,← hlist,← hfuel] at hQ'
     exact hQ'
   intro fuel
   induction fuel with
   | zero=>
     intro listed a w hI hfu
     refine hend 0 listed a w hI hfu (fun j hj=> ?_)
     obtain⟨i1,_⟩:=hI
     have hjs:j<listed.size:=by rw [i1];exact Nat.lt_of_lt_of_le hj K.le
     cases hl:listed.getD j false with
     | true=>rfl
     | false=>
       exfalso
       have hmem:false∈listed.toList.filter (fun b=> !b):=by
         rw [List.mem_filter]
         refine⟨?_,rfl⟩
         simp only [Array.getD,hjs,dif_pos] at hl
         rw [← hl]
         exact Array.getElem_mem_toList hjs
       rw [List.length_eq_zero_iff] at hfu
       rw [hfu] at hmem
       simp at hmem
   | succ fuel ih=>
     intro listed a w hI hfu
     by_cases hfull:∀j,j<n→listed.getD j false=true
     · exact hend _ listed a w hI hfu hfull
     obtain⟨i1,i2,i3,i4,i5,i6,i7,i9,i8⟩:=hI
     have hsome:∃j,j<n∧listed.getD j false=false∧∀i,i<j→listed.getD i false=true:=by
       have:∃j,j<n∧listed.getD j false=false:=by
         apply Classical.byContradiction
         intro hno
         exact hfull (fun j hj=>by
           cases hl:listed.getD j false with
           | true=>rfl
           | false=>exact absurd ⟨j,hj,hl⟩ hno)
       obtain⟨j,hj,hl⟩:=this
       induction j using Nat.strongRecOn with
       | _ j ihj=>
         by_cases h:∀i,i<j→listed.getD i false=true
         · exact⟨j,hj,hl,h⟩
         · apply Classical.byContradiction
           intro hno
           exact h (fun i hi=>by
             cases hli:listed.getD i false with
             | true=>rfl
             | false=>exact absurd (ihj i hi (by omega) hli) hno)
     obtain⟨j0,hj0,hlj0,hbefore⟩:=hsome
     have hne:Region.ready .any ops listed≠ []:=by
       intro hr
       have hjs:j0<ops.size:=Nat.lt_of_lt_of_le hj0 K.le
       have hmem:j0∈Region.ready .any ops listed:=by
         rw [mem_ready]
         refine⟨?_,ops[j0],Array.getElem?_eq_getElem hjs,fun e he _=>hbefore e.on (K.back j0 _ hj0 (Array.getElem?_eq_getElem hjs) e he)⟩
         simp only [Array.getD] at hlj0⊢
         rw [dif_pos (by omega)] at hlj0⊢
         exact hlj0
       rw [hr] at hmem
       simp at hmem
     refine⟨fun h0=>absurd h0 hne,fun i hi=> ?_⟩
     rw [mem_ready] at hi
     obtain⟨r1,o,ho,r2⟩:=hi
     have hio:i<ops.size:=(Array.getElem?_eq_some_iff.1 ho).1
     have hil:i<listed.size:=by omega
     have hself:∀d,(listed.setIfInBounds i true).getD i d=true:=by intro d;simp [Array.getD,hil]
     have hin:i<n:=by
       apply Classical.byContradiction
       intro h
       have:=reaches_listed i6 i7 8 o (K.wait i j0 o (by omega) hj0 ho) r2
       rw [hlj0] at this
       cases this
     unfold wpOp
     rw [ho]
     have hnext:∀v w',F i v w'→Kept [] w w'→(∀k u,k<n→k≠i→F k u w→E k i u v)→wpAny P .any ops Q fuel (listed.setIfInBounds i true) (a.put o.dst v) w':=by
       intro v w' hFv hk hE
       refine ih _ _ _ ⟨by simpa using i1,by rw [put_defers];exact i2,by rw [put_size];exact i3,?_,?_,?_,?_,?_,i8.trans hk⟩ ?_
       · intro t ht
         rw [put_other _ _ _ _ (ht o ((hmemT o).2 ⟨i,hin,ho⟩))]
         exact i4 t ht
       · intro j p t hjn hp ht hlj
         by_cases hji:j=i
         · subst hji
           rw [ho] at hp
           cases hp
           rw [ht]
           exact⟨v,put_same _ _ _ (by rw [i3];exact hsl' o (Array.mem_of_getElem? ho) t ht),hFv⟩
         · rw [getD_set_ne _ (fun e=>hji e.symm)] at hlj
           obtain⟨u,hu,hfu'⟩:=i5 j p t hjn hp ht hlj
           refine⟨u,?_,hF _ _ _ _ hfu' hk⟩
           rw [put_other _ _ _ _ ?_]
           · exact hu
           · have:=K.apart i j o p hin hjn ho hp (fun e=>hji e.symm)
             rw [ht] at this
             exact this
       · intro j hj
         rw [getD_set_ne _ (by omega)]
         exact i6 j hj
       · intro j p hjn hp hlj e he hb
         by_cases hji:j=i
         · subst hji
           rw [ho] at hp
           cases hp
           exact getD_set_true (r2 e he hb)
         · rw [getD_set_ne _ (fun e=>hji e.symm)] at hlj
           exact getD_set_true (i7 j p hjn hp hlj e he hb)
       · have old:∀(j:Nat) (p:Oper) (t:Nat) (u:Value),j<n→j≠i→ops[j]?=some p→p.dst=some t→(listed.setIfInBounds i true).getD j false=true→(a.put o.dst v).tmps[t]?=some u→listed.getD j false=true∧a.tmps[t]?=some u:=by
           intro j p t u hjn hji hp ht hlj hu
           rw [getD_set_ne _ (fun e=>hji e.symm)] at hlj
           rw [put_other _ _ _ _ (by have:=K.apart i j o p hin hjn ho hp (fun e=>hji e.symm);rw [ht] at this;exact this)] at hu
           exact⟨hlj,hu⟩
         have new:∀(q:Oper) (t:Nat) (u:Value),ops[i]?=some q→q.dst=some t→(a.put o.dst v).tmps[t]?=some u→u=v:=by
           intro q t u hq ht hu
           rw [ho] at hq
           cases hq
           rw [ht,put_same _ _ _ (by rw [i3];exact hsl' o (Array.mem_of_getElem? ho) t ht)] at hu
           exact(Option.some.inj hu).symm
         intro j k p q s t u x hjn hkn hne hp hq hs ht hlj hlk hu hx
         by_cases hji:j=i
         · subst hji
           obtain⟨hlk',hx'⟩:=old k q t x hkn (fun e=>hne e.symm) hq ht hlk hx
           obtain rfl:=new p s u hp hs hu
           obtain⟨x',hx2,hfx⟩:=i5 k q t hkn hq ht hlk'
           rw [hx'] at hx2
           cases hx2
           exact .inr (hE k x hkn (fun e=>hne e.symm) hfx)
         · obtain⟨hlj',hu'⟩:=old j p s u hjn hji hp hs hlj hu
           by_cases hki:k=i
           · subst hki
             obtain rfl:=new q t x hq ht hx
             obtain⟨u',hu2,hfu2⟩:=i5 j p s hjn hp hs hlj'
             rw [hu'] at hu2
             cases hu2
             exact .inl (hE j u hjn hji hfu2)
           · obtain⟨hlk',hx'⟩:=old k q t x hkn hki hq ht hlk hx
             exact i9 j k p q s t u x hjn hkn hne hp hq hs ht hlj' hlk' hu' hx'
       · have:=unlisted_set' r1 hil
         omega
     have hyi:∀k b,o.guard=some (k,b)→∃v,F k v w∧yielded ops a.tmps k=boolOf v:=by
       intro k b hg
       obtain⟨e,he,hb,rfl⟩:=K.guard i o k b hin ho hg
       have hen:e.on<n:=by have:=K.back i o hin ho e he;omega
       have hes:e.on<ops.size:=Nat.lt_of_lt_of_le hen K.le
       obtain⟨t,ht⟩:=K.dst e.on ops[e.on] hen (Array.getElem?_eq_getElem hes)
       obtain⟨v,hv,hf⟩:=i5 e.on _ t hen (Array.getElem?_eq_getElem hes) ht (r2 e he hb)
       exact⟨v,hf,yielded_of hes ht hv⟩
     cases hsk:skip i with
     | true=>
       have hwt:Region.wanted o (yielded ops a.tmps)=false:=by
         cases hg:o.guard with
         | none=>have:=hng i o hin ho hg;rw [hsk] at this;cases this
         | some g=>
           obtain⟨k,b⟩:=g
           obtain⟨v,hf,hy⟩:=hyi k b hg
           rcases hgd i o k b hin ho hg with ⟨h1,_⟩ | ⟨_,h2⟩
           · rw [hsk] at h1;cases h1
           · exact wanted_no hg hy (h2 v w hf)
       simp only [hwt,Bool.false_eq_true,if_false]
       exact hnext undef w (hun i w hsk) (Kept.refl _ _) (fun k u _ _ _=>hunE k i u hsk)
     | false=>
     have hwt:Region.wanted o (yielded ops a.tmps)=true:=by
       cases hg:o.guard with
       | none=>simp [Region.wanted,hg]
       | some g=>
         obtain⟨k,b⟩:=g
         obtain⟨v,hf,hy⟩:=hyi k b hg
         rcases hgd i o k b hin ho hg with ⟨_,h1⟩ | ⟨h2,_⟩
         · have:=h1 v w hf
           subst this
           simp [Region.wanted,hg,hy,boolOf]
         · rw [hsk] at h2;cases h2
     simp only [hwt,if_true]
     left
     refine Oper.wp_mono ?_ (hop i o hin hsk ho a w ?_ ?_ i8)
     · rintro a' w' ⟨v,rfl,hFv,hk,hE⟩
       exact hnext v w' hFv hk hE
     · intro t ht
       have:=i4 t (fun p hp=>by
         have:=(List.all_eq_true.1 ht) p hp
         simpa using this)
       simp only [Act.eval,Array.getD_eq_getD_getElem?,this]
     · intro k t hk hpt
       obtain⟨p,hp,ht⟩:=Option.bind_eq_some_iff.1 hpt
       simp only [Array.any_eq_true'] at hk
       obtain⟨e,he,hb⟩:=hk
       simp only [Bool.and_eq_true,beq_iff_eq] at hb
       obtain⟨hb,rfl⟩:=hb
       have hen:e.on<n:=by have:=K.back i o hin ho e he;omega
       obtain⟨v,hv,hf⟩:=i5 e.on p t hen hp ht (r2 e he hb)
       have:a.eval (.tmp t)=v:=by simp [Act.eval,Array.getD_eq_getD_getElem?,hv]
       rw [this]
       exact hf
 refine main _ _ _ _ ⟨by simp,rfl,rfl,fun t _=>rfl,?_,?_,?_,?_,?_⟩ (by simp)
 · intro j o t hj ho ht hl
   simp [Array.getD,(Array.getElem?_eq_some_iff.1 ho).1] at hl
 · intro j _
   simp [Array.getD]
 · intro j o hj ho hl
   simp [Array.getD,(Array.getElem?_eq_some_iff.1 ho).1] at hl
 · intro i j p o s t u v hi hj hne hp ho hs ht hl
   simp [Array.getD,(Array.getElem?_eq_some_iff.1 hp).1] at hl
 · exact⟨rfl,rfl,rfl,Nat.le_refl _,fun _ _ _=>rfl⟩
end
def tq (us:List (Option Value)) (j:Nat) (v:Value) (_:World):Prop:=match us[j]? with
 | some (some u)=>v=u
 | some none=>v=undef
 | none=>True
theorem tq_kept (us:List (Option Value)):∀j v w w',tq us j v w→Kept [] w w'→tq us j v w':=fun _ _ _ _ h _=>h
def skipQ (us:List (Option Value)) (j:Nat):Bool:=match us[j]? with
 | some none=>true
 | _=>false
def guardsQ (ops:Array Oper) (us:List (Option Value)):Bool:=(List.range ops.size).all (fun j=>match ops[j]? with
 | none=>false
 | some o=>match o.guard with
   | none=> !skipQ us j
   | some (i,b)=>match us[i]? with
     | some (some (.bool c))=>if c == b then !skipQ us j else skipQ us j
     | some none=>skipQ us j
     | _=>false)
theorem guardsQ_some {ops:Array Oper} {us:List (Option Value)} (h:guardsQ ops us=true):∀(j:Nat) (o:Oper) (i:Nat) (b:Bool),ops[j]?=some o→o.guard=some (i,b)→(skipQ us j=false∧∀v w,tq us i v w→v= .bool b)∨(skipQ us j=true∧∀v w,tq us i v w→v≠ .bool b):=by
 intro j o i b ho hg
 have:=(List.all_eq_true.1 h) j (List.mem_range.2 (Array.getElem?_eq_some_iff.1 ho).1)
 simp only [ho,hg] at this
 unfold tq
 cases hfi:us[i]? with
 | none=>rw [hfi] at this;simp at this
 | some f=>
   rw [hfi] at this
   cases f with
   | none=>
     refine .inr ⟨by simpa using this,fun v w hv=> ?_⟩
     have:v=undef:=hv
     rw [this]
     simp [undef]
   | some u=>
     cases u <;> first |(simp at this;done) | skip
     rename_i c
     by_cases hcb:c=b
     · subst hcb
       refine .inl ⟨by simpa using this,fun v w hv=>hv⟩
     · refine .inr ⟨?_,fun v w hv=> ?_⟩
       · have hne:(c == b)=false:=beq_eq_false_iff_ne.2 hcb
         simpa [hne] using this
       · have hv':v= .bool c:=hv
         rw [hv']
         intro e
         exact hcb (by cases e;rfl)
theorem guardsQ_none {ops:Array Oper} {us:List (Option Value)} (h:guardsQ ops us=true):∀(j:Nat) (o:Oper),ops[j]?=some o→o.guard=none→skipQ us j=false:=by
 intro j o ho hg
 have:=(List.all_eq_true.1 h) j (List.mem_range.2 (Array.getElem?_eq_some_iff.1 ho).1)
 simp only [ho,hg] at this
 simpa using this
theorem skipQ_undef {us:List (Option Value)} {j:Nat} (w:World) (h:skipQ us j=true):tq us j undef w:=by
 unfold skipQ at h
 unfold tq
 split at h
 · next hf=>rw [hf]
 · cases h
theorem tq_is (us:List (Option Value)) (j:Nat) (v:Value) (w:World) (hv:us[j]?=some (some v)):tq us j v w:=by
 unfold tq;rw [hv]
theorem is_tq {us:List (Option Value)} {j:Nat} {v u:Value} {w:World} (h:tq us j v w) (hv:us[j]?=some (some u)):v=u:=by
 unfold tq at h;rw [hv] at h;exact h
def valsQ (us:List (Option Value)):List Value:=us.map (fun o=>o.getD undef)
theorem vs_tq {us:List (Option Value)} {vs:List Value} {w:World} (h:∀(j:Nat) v,vs[j]?=some v→tq us j v w) (hl:vs.length=us.length):vs=valsQ us:=by
 apply List.ext_getElem (by simp [valsQ,hl])
 intro i h1 h2
 have:=h i _ (List.getElem?_eq_getElem h1)
 unfold tq at this
 rw [List.getElem?_eq_getElem (by omega)] at this
 simp only [valsQ,List.getElem_map]
 cases hq:us[i]'(by omega) with
 | none=>rw [hq] at this;exact this
 | some u=>rw [hq] at this;exact this
theorem wpAny_tq {ops:Array Oper} {Q:Exit→Act→World→Prop} {a0:Act} {w0:World} (n:Nat) (hn:ops.size=n) (hok:prefG ops n=true) (us:List (Option Value)) (hu:us.length=n) (hg:guardsQ ops us=true)
   (hsl:ops.all (fun o=>match o.dst with | none=>true | some t=>decide (t<a0.tmps.size))=true)
   (hop:∀(j:Nat) (o:Oper),j<n→skipQ us j=false→ops[j]?=some o→∀a w,(∀t:Nat,(ops.toList.take n).all (fun p=>p.dst !=some t)=true→a.eval (.tmp t)=a0.eval (.tmp t))→
     (∀(i t:Nat),o.after.any (fun e=>Region.binds .any e&&e.on == i)=true→ops[i]?.bind (·.dst)=some t→tq us i (a.eval (.tmp t)) w)→Kept [] w0 w→
     o.wp Try.prog a w (fun a' w'=>∃v,a'=a.put o.dst v∧tq us j v w'∧Kept [] w w'∧∀i u,i<n→i≠j→tq us i u w→True) Q)
   (hQ:∀w,Kept [] w0 w→wpAny Try.prog .any ops Q 0 (lists n (n+0)) (putAll a0 (ops.toList.take n) (valsQ us)) w):
   wpAny Try.prog .any ops Q ops.size (Array.replicate ops.size false) a0 w0:=by
 refine wpAny_prefS n 0 (by omega) hok (tq us) (fun _ _ _ _=>True) (skipQ us) (fun j o i b _ ho hg'=>guardsQ_some hg j o i b ho hg') (fun j o _ ho hg'=>guardsQ_none hg j o ho hg') (fun j w h=>skipQ_undef w h) (fun _ _ _ _=>trivial) (tq_kept us) hsl hop ?_
 intro vs w hlen hv _ hk
 obtain rfl:=vs_tq hv (by omega)
 exact hQ w hk
theorem lists_set {k n:Nat} (h:k<n):(lists k n).setIfInBounds k true=lists (k+1) n:=by
 apply Array.ext_getElem?
 intro j
 unfold lists
 simp only [List.setIfInBounds_toArray,List.getElem?_toArray]
 by_cases hjk:j=k
 · subst hjk
   rw [List.getElem?_set_self (by simp;omega),List.getElem?_append_left (by simp),List.getElem?_replicate_of_lt (by omega)]
 · rw [List.getElem?_set_ne (fun e=>hjk e.symm)]
   by_cases h1:j<k
   · rw [List.getElem?_append_left (by simpa using h1),List.getElem?_append_left (by simp;omega),List.getElem?_replicate_of_lt h1,List.getElem?_replicate_of_lt (by omega)]
   · rw [List.getElem?_append_right (by simp;omega),List.getElem?_append_right (by simp;omega)]
     simp only [List.length_replicate]
     by_cases h2:j<n
     · rw [List.getElem?_replicate_of_lt (by omega),List.getElem?_replicate_of_lt (by omega)]
     · rw [List.getElem?_eq_none (by simp;omega),List.getElem?_eq_none (by simp;omega)]
theorem ops_of_any {P:Program} {ops:Array Oper} {Q:Exit→Act→World→Prop} {n:Nat} (hn:ops.size=n) (K:PrefG ops n):∀(m k:Nat) (a:Act) (w:World),k+m=n→wpAny P .any ops Q m (lists k n) a w→wpOps P ops Q (List.range' k m) a w:=by
 intro m
 induction m with
 | zero=>intro k a w _ h;exact h.2
 | succ m ih=>
   intro k a w hk h
   have hks:k<ops.size:=by omega
   have hmem:k∈Region.ready .any ops (lists k n):=by
     rw [mem_ready]
     refine⟨by simp [lists,Array.getD];omega,ops[k],Array.getElem?_eq_getElem hks,fun e he _=> ?_⟩
     have:=K.back k _ (by omega) (Array.getElem?_eq_getElem hks) e he
     simp [lists,Array.getD,this];omega
   have h1:=h.2 k hmem
   rw [lists_set (by omega)] at h1
   have e:List.range' k (m+1)=k::List.range' (k+1) m:=rfl
   rw [e,wpOps_cons]
   unfold wpOp at h1⊢
   rw [Array.getElem?_eq_getElem hks] at h1⊢
   simp only at h1⊢
   split
   · next hw=>
     rw [if_pos hw] at h1
     rcases h1 with h1 | h1
     · exact .inl (Oper.wp_mono (fun a w h=>ih (k+1) a w (by omega) h) h1)
     · exact .inr h1
   · next hw=>
     rw [if_neg hw] at h1
     exact ih (k+1) _ w (by omega) h1
theorem wp_region_text {id:Nat} {P:Program} {ops:Array Oper} {Q:Exit→Act→World→Prop} {a0:Act} {w0:World} (n:Nat) (hnr:ops.size=n) (hok:prefG ops n=true) (F:Nat→Value→World→Prop) (E:Nat→Nat→Value→Value→Prop)
   (skip:Nat→Bool) (hgd:∀(j:Nat) (o:Oper) (i:Nat) (b:Bool),j<n→ops[j]?=some o→o.guard=some (i,b)→(skip j=false∧∀v w,F i v w→v= .bool b)∨(skip j=true∧∀v w,F i v w→v≠ .bool b))
   (hng:∀(j:Nat) (o:Oper),j<n→ops[j]?=some o→o.guard=none→skip j=false) (hun:∀j w,skip j=true→F j undef w) (hunE:∀i j u,skip j=true→E i j u undef)
   (hF:∀j v w w',F j v w→Kept [] w w'→F j v w') (hsl:ops.all (fun o=>match o.dst with | none=>true | some t=>decide (t<a0.tmps.size))=true)
   (hop:∀(j:Nat) (o:Oper),j<n→skip j=false→ops[j]?=some o→∀a w,(∀t:Nat,(ops.toList.take n).all (fun p=>p.dst !=some t)=true→a.eval (.tmp t)=a0.eval (.tmp t))→
     (∀(i t:Nat),o.after.any (fun e=>Region.binds .any e&&e.on == i)=true→ops[i]?.bind (·.dst)=some t→F i (a.eval (.tmp t)) w)→Kept [] w0 w→
     o.wp P a w (fun a' w'=>∃v,a'=a.put o.dst v∧F j v w'∧Kept [] w w'∧∀i u,i<n→i≠j→F i u w→E i j u v) Q)
   (hQ:∀(vs:List Value) w,vs.length=n→(∀(j:Nat) v,vs[j]?=some v→F j v w)→Kept [] w0 w→Q .normal (putAll a0 (ops.toList.take n) vs) w):
   (Code.region id ops false).wp P Q a0 w0:=by
 refine wp_region ?_
 rw [List.range_eq_range',hnr]
 have K:=prefG_spec hok
 refine ops_of_any hnr K n 0 a0 w0 (by omega) ?_
 have:=wpAny_prefS (P:=P) (Q:=Q) (a0:=a0) (w0:=w0) n 0 (by omega) hok F E skip hgd hng hun hunE hF hsl hop (fun vs w h1 h2 _ h4=>by
   refine⟨?_,hQ vs w h1 h2 h4⟩
   apply List.eq_nil_iff_forall_not_mem.2
   intro j hj
   rw [mem_ready] at hj
   have h1:=hj.1
   obtain⟨o,ho,_⟩:=hj.2
   have hjn:j<n:=by rw [← hnr];exact(Array.getElem?_eq_some_iff.1 ho).1
   simp [lists,Array.getD,hjn] at h1)
 have e:lists 0 n=Array.replicate n false:=by simp [lists]
 rw [e]
 rw [hnr] at this
 exact this
section
variable {o:Oper} {a:Act} {w:World} {K:Act→World→Prop} {Q:Exit→Act→World→Prop}
theorem o_pick (c x:Operand) (ho:o.op= .pick c x (.const (.bool false))) (r:Bool) (hc:a.eval c= .bool true) (hx:a.eval x= .bool r) (h:K (a.put o.dst (.bool r)) w):o.wp Try.prog a w K Q:=by
 unfold Oper.wp execOp
 simp only [ho,hc,hx]
 simp [go_sem]
 exact h
theorem o_not (x:Operand) (ho:o.op= .unOp .not 4 x) (r:Bool) (hx:a.eval x= .bool r) (h:K (a.put o.dst (.bool (!r))) w):o.wp Try.prog a w K Q:=by
 unfold Oper.wp execOp
 simp only [ho,hx]
 simp [go_sem]
 exact h
theorem o_load2 (x:Operand) (ho:o.op= .load 2 x) (p:Addr) (v:Value) (hx:a.eval x= .pointer (some p)) (hc:w.cell? p=some v) (h:K (a.put o.dst v) w):o.wp Try.prog a w K Q:=by
 unfold Oper.wp execOp
 simp only [ho,hx]
 simp [go_sem,hc]
 exact h
theorem wp_move (x:Operand) (ho:o.op= .move x) (v:Value) (hx:a.eval x=v) (h:K (a.put o.dst v) w):o.wp Try.prog a w K Q:=by
 subst hx
 unfold Oper.wp execOp
 simp only [ho]
 exact h
theorem wp_assignV (x:Operand) (ho:o.op= .assign x) (v:Value) (hx:a.eval x=v) (h:K (a.put o.dst v) w):o.wp Try.prog a w K Q:=by
 subst hx
 exact wp_assign x ho h
theorem o_pickN (c x:Operand) (ho:o.op= .pick c x (.const (.bool false))) (hc:a.eval c= .bool false) (h:K (a.put o.dst (.bool false)) w):o.wp Try.prog a w K Q:=by
 unfold Oper.wp execOp
 simp only [ho,hc]
 simp [go_sem]
 exact h
theorem o_pickOrT (c x:Operand) (ho:o.op= .pick c (.const (.bool true)) x) (hc:a.eval c= .bool true) (h:K (a.put o.dst (.bool true)) w):o.wp Try.prog a w K Q:=by
 unfold Oper.wp execOp
 simp only [ho,hc]
 simp [go_sem]
 exact h
theorem o_pickOr0 (c x:Operand) (ho:o.op= .pick c (.const (.bool true)) x) (r:Bool) (hc:a.eval c= .bool false) (hx:a.eval x= .bool r) (h:K (a.put o.dst (.bool r)) w):o.wp Try.prog a w K Q:=by
 unfold Oper.wp execOp
 simp only [ho,hc,hx]
 simp [go_sem]
 exact h
end
structure Stp (p:Prop):Prop where
 go:p
end Go.Proofs.Ytbigongmlpoahaa
