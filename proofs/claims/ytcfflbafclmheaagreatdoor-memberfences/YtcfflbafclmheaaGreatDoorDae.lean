/-
  Texts of the walks of member, shortened.
-/
import Derived.Test.YtcfflbafclmheaaGreatDoorDab
import Derived.Test.YtcfflbafclmheaaGreatDoorDaa
import Derived.Orders
import Derived.Test.YtcfflbafclmheaaGreatDoorProg
import Derived.BigFrame
import Derived.ChangeKeysEq
import Derived.Deep.QuietTactic
import Derived.Laws.CopyOwn
import Derived.Deep.RegionLaw
import Derived.Laws.StructEq
set_option maxRecDepth 100000
set_option maxHeartbeats 100000000
set_option linter.unusedSimpArgs false
namespace Go.Proofs.YtcfflbafclmheaaGreatDoor.Ar
open Go.RowKit
def Qz (a:Act):List Oper→List Value→Act
 | o::os,v::vs=>Qz (a.put o.dst v) os vs
 | _,_=>a
def prefOK (ops:Array Oper) (n:Nat):Bool:=
 decide (n≤ops.size)&&(List.range n).all (fun j=>match ops[j]? with
   | none=>false
   | some o=>o.guard.isNone&&o.dst.isSome&&o.after.all (fun e=>decide (e.on<j))&&(List.range j).all (fun i=>match ops[i]? with
    | none=>false
    | some p=>p.dst !=o.dst))&&
 (List.range ops.size).all (fun j=>decide (j<n)||(match ops[j]? with
   | none=>false
   | some o=>(List.range n).all (fun i=>reaches ops i 6 o)))
section
variable {P:Program} {ops:Array Oper} {Q:Exit→Act→World→Prop}
structure PrefOK (ops:Array Oper) (n:Nat):Prop where
 le:n≤ops.size
 guard:∀(j:Nat) (o:Oper),j<n→ops[j]?=some o→o.guard=none
 dst:∀(j:Nat) (o:Oper),j<n→ops[j]?=some o→∃t,o.dst=some t
 back:∀(j:Nat) (o:Oper),j<n→ops[j]?=some o→∀e∈o.after,e.on<j
 apart:∀(i j:Nat) (p o:Oper),i<n→j<n→ops[i]?=some p→ops[j]?=some o→i≠j→p.dst≠o.dst
 wait:∀(j i:Nat) (o:Oper),n≤j→i<n→ops[j]?=some o→reaches ops i 6 o=true
theorem prefOK_spec {n:Nat} (h:prefOK ops n=true):PrefOK ops n:=by
 unfold prefOK at h;rw [Bool.and_eq_true,Bool.and_eq_true] at h;obtain⟨⟨h0,h1⟩,h2⟩:=h;have h0:=of_decide_eq_true h0;rw [List.all_eq_true] at h1 h2;have g1:∀(j:Nat) (o:Oper),j<n→ops[j]?=some o→(o.guard.isNone&&o.dst.isSome&&o.after.all (fun e=>decide (e.on<j))&&(List.range j).all (fun i=>match ops[i]? with
     | none=>false
     | some p=>p.dst !=o.dst))=true:=by
   intro j o hj ho;have:=h1 j (List.mem_range.2 hj);rw [ho] at this;exact this
 have lt:∀(i j:Nat) (p o:Oper),j<n→ops[i]?=some p→ops[j]?=some o→i<j→p.dst≠o.dst:=by
   intro i j p o hj hp ho hij;have:=g1 j o hj ho;rw [Bool.and_eq_true,List.all_eq_true] at this;have:=this.2 i (List.mem_range.2 hij);rw [hp] at this;simpa using this
 refine⟨h0,?_,?_,?_,?_,?_⟩
 · intro j o hj ho;have:=g1 j o hj ho;simp only [Bool.and_eq_true] at this;exact Option.isNone_iff_eq_none.1 this.1.1.1
 · intro j o hj ho;have:=g1 j o hj ho;simp only [Bool.and_eq_true] at this;exact Option.isSome_iff_exists.1 this.1.1.2
 · intro j o hj ho e he;have:=g1 j o hj ho;simp only [Bool.and_eq_true] at this;have:=(Array.all_eq_true_iff_forall_mem.1 this.1.2) e he;simpa using this
 · intro i j p o hi hj hp ho hne;rcases Nat.lt_or_gt_of_ne hne with h | h
   · exact lt i j p o hj hp ho h
   · exact(lt j i o p hi ho hp h).symm
 · intro j i o hj hi ho;have:=h2 j (List.mem_range.2 (Array.getElem?_eq_some_iff.1 ho).1);rw [ho,decide_eq_false (by omega),Bool.false_or] at this;simp only [List.all_eq_true] at this;exact this i (List.mem_range.2 hi)
theorem reaches_listed {n i:Nat} {listed:Array Bool} (h6:∀j,n≤j→listed.getD j false=false) (h7:∀(j:Nat) (o:Oper),j<n→ops[j]?=some o→listed.getD j false=true→∀e∈o.after,Region.binds .any e=true→listed.getD e.on false=true):
  ∀(f:Nat) (o:Oper),reaches ops i f o=true→(∀e∈o.after,Region.binds .any e=true→listed.getD e.on false=true)→listed.getD i false=true:=by
 intro f
 induction f with
 | zero=>intro o h _;simp [reaches] at h
 | succ f ih=>
  intro o h hl;simp only [reaches,Array.any_eq_true'] at h;obtain⟨e,he,hb⟩:=h;simp only [Bool.and_eq_true,Bool.or_eq_true,beq_iff_eq] at hb;have hle:=hl e he hb.1;rcases hb.2 with rfl | h2
  · exact hle
  · cases hp:ops[e.on]? with
    | none=>rw [hp] at h2;simp at h2
    | some p=>
     rw [hp] at h2;by_cases hen:e.on<n
     · exact ih p h2 (h7 e.on p hen hp hle)
     · have:=h6 e.on (by omega);rw [this] at hle;cases hle
theorem Zd (a:Act) (d:Option Tmp) (v:Value) (t:Nat) (h:d≠some t):(a.put d v).tmps[t]?=a.tmps[t]?:=by
 cases d with
 | none=>rfl
 | some d=>
  simp only [Act.put];rw [Array.getElem?_setIfInBounds_ne (by intro e;exact h (by rw [e]))]
theorem ZR (a:Act) (t:Nat) (v:Value) (h:t<a.tmps.size):(a.put (some t) v).tmps[t]?=some v:=by
 simp [Act.put,h]
theorem put_size (a:Act) (d:Option Tmp) (v:Value):(a.put d v).tmps.size=a.tmps.size:=by cases d <;> simp [Act.put]
theorem put_defers (a:Act) (d:Option Tmp) (v:Value):(a.put d v).defers=a.defers:=by cases d <;> rfl
theorem Zl:∀(os:List Oper) (vs:List Value) (a:Act) (t:Nat),(∀o∈os,o.dst≠some t)→(Qz a os vs).tmps[t]?=a.tmps[t]?:=by
 intro os
 induction os with
 | nil=>intro vs a t _;rfl
 | cons o os ih=>
  intro vs a t h;cases vs with
  | nil=>rfl
  | cons v vs=>rw [Qz,ih _ _ _ (fun p hp=>h p (List.mem_cons_of_mem _ hp)),Zd _ _ _ _ (h o (List.mem_cons_self ..))]
theorem putAll_size:∀(os:List Oper) (vs:List Value) (a:Act),(Qz a os vs).tmps.size=a.tmps.size∧(Qz a os vs).defers=a.defers:=by
 intro os
 induction os with
 | nil=>intro vs a;exact⟨rfl,rfl⟩
 | cons o os ih=>
  intro vs a;cases vs with
  | nil=>exact ⟨rfl,rfl⟩
  | cons v vs=>rw [Qz];exact⟨(ih _ _).1.trans (put_size _ _ _),(ih _ _).2.trans (put_defers _ _ _)⟩
theorem putAll_same:∀(os:List Oper) (vs:List Value) (a:Act) (j:Nat) (o:Oper) (v:Value) (t:Nat),os[j]?=some o→vs[j]?=some v→o.dst=some t→t<a.tmps.size→
  (∀(i j:Nat) (p q:Oper),os[i]?=some p→os[j]?=some q→i≠j→p.dst≠q.dst)→(Qz a os vs).tmps[t]?=some v:=by
 intro os
 induction os with
 | nil=>intro vs a j o v t h;simp at h
 | cons p os ih=>
  intro vs a j o v t ho hv ht hlt hap;cases vs with
  | nil=>simp at hv
  | cons u vs=>
    rw [Qz];cases j with
    | zero=>
     simp at ho hv;subst ho hv;rw [Zl _ _ _ _ ?_,ht,ZR _ _ _ hlt];intro q hq;obtain⟨k,hk⟩:=List.getElem?_of_mem hq;have:=hap 0 (k+1) p q rfl (by simpa using hk) (by omega);rw [ht] at this;exact fun e=>this e.symm
    | succ j=>
     exact ih vs _ j o v t (by simpa using ho) (by simpa using hv) ht (by rw [put_size];exact hlt)
      (fun i k p' q' h1 h2 hne=>hap (i+1) (k+1) p' q' (by simpa using h1) (by simpa using h2) (by omega))
theorem unlisted_set {listed:Array Bool} {i:Nat} (hi:listed.getD i true=false):((listed.setIfInBounds i true).toList.filter (fun b=> !b)).length<(listed.toList.filter (fun b=> !b)).length:=by
 have hlt:i<listed.toList.length:=by
  simp only [Array.getD] at hi;split at hi
  · simpa using ‹_›
  · simp at hi
 have hv:listed.toList[i]=false:=by
  simp only [Array.getD] at hi;rw [dif_pos (by simpa using hlt)] at hi;simpa using hi
 have h1:(listed.setIfInBounds i true).toList=listed.toList.take i++true::listed.toList.drop (i+1):=by
  rw [Array.toList_setIfInBounds,List.set_eq_take_append_cons_drop,if_pos hlt]
 have h2:listed.toList=listed.toList.take i++false::listed.toList.drop (i+1):=by
  conv=>lhs;rw [← List.take_append_drop i listed.toList]
  rw [List.drop_eq_getElem_cons hlt,hv]
 rw [h1]
 conv=>rhs;rw [h2]
 simp [List.filter_append]
theorem unlisted_set' {listed:Array Bool} {i:Nat} (hi:listed.getD i true=false) (hl:i<listed.size):((listed.setIfInBounds i true).toList.filter (fun b=> !b)).length+1=(listed.toList.filter (fun b=> !b)).length:=by
 obtain⟨l⟩:=listed;simp only [List.size_toArray] at hl;have hx:l[i]=false:=by simpa [Array.getD,hl] using hi
 have e:l=l.take i++false::l.drop (i+1):=by rw [← hx];simp
 have e2:((l.toArray.setIfInBounds i true).toList)=l.take i++true::l.drop (i+1):=by
  rw [List.setIfInBounds_toArray,List.set_eq_take_append_cons_drop,if_pos hl]
 rw [e2];simp only [] at*
 conv=>rhs;rw [e]
 simp [List.filter_append];omega
theorem wp_region_prefix {id:Nat} {a0:Act} {w0:World} (hm:P.follows .mixedOrders=true) (n r:Nat) (hnr:ops.size=n+r) (hok:prefOK ops n=true) (F:Nat→Value→World→Prop) (E:Nat→Nat→Value→Value→Prop)
   (hF:∀j v w w',F j v w→Kept [] w w'→F j v w') (hsl:ops.all (fun o=>match o.dst with | none=>true | some t=>decide (t<a0.tmps.size))=true)
   (hop:∀(j:Nat) (o:Oper),j<n→ops[j]?=some o→∀a w,(∀t:Nat,(ops.toList.take n).all (fun p=>p.dst !=some t)=true→a.eval (.tmp t)=a0.eval (.tmp t))→
     (∀(i t:Nat),o.after.any (fun e=>Region.binds .any e&&e.on == i)=true→ops[i]?.bind (·.dst)=some t→F i (a.eval (.tmp t)) w)→Kept [] w0 w→
     o.wp P a w (fun a' w'=>∃v,a'=a.put o.dst v∧F j v w'∧Kept [] w w'∧∀i u,i<n→i≠j→F i u w→E i j u v) Q)
   (hQ:∀(vs:List Value) w,vs.length=n→(∀(j:Nat) v,vs[j]?=some v→F j v w)→(∀(i j:Nat) u v,i≠j→vs[i]?=some u→vs[j]?=some v→E i j u v∨E j i v u)→Kept [] w0 w→wpAny P .any ops Q r (lists n (n+r)) (Qz a0 (ops.toList.take n) vs) w):
   (Code.region id ops true).wp P Q a0 w0:=by
 have K:=prefOK_spec hok;have hsl':∀o∈ops,∀t,o.dst=some t→t<a0.tmps.size:=by
   intro o ho t ht;have:=(Array.all_eq_true_iff_forall_mem.1 hsl) o ho;rw [ht] at this;simpa using this
 have hmemT:∀o,o∈ops.toList.take n↔∃j,j<n∧ops[j]?=some o:=by
   intro o;rw [List.mem_iff_getElem?];constructor
   · rintro ⟨j,hj⟩;have hjn:j<n:=by
       have:=(List.getElem?_eq_some_iff.1 hj).1;rw [List.length_take] at this;omega
     rw [List.getElem?_take_of_lt hjn] at hj;exact⟨j,hjn,by simpa using hj⟩
   · rintro ⟨j,hjn,hj⟩;exact⟨j,by rw [List.getElem?_take_of_lt hjn];simpa using hj⟩
 refine wp_region_any hm ?_
 let I:Array Bool→Act→World→Prop:=fun listed a w=>
   listed.size=ops.size∧a.defers=a0.defers∧a.tmps.size=a0.tmps.size∧(∀t,(∀p∈ops.toList.take n,p.dst≠some t)→a.tmps[t]?=a0.tmps[t]?)∧
   (∀(j:Nat) (o:Oper) (t:Nat),j<n→ops[j]?=some o→o.dst=some t→listed.getD j false=true→∃v,a.tmps[t]?=some v∧F j v w)∧
   (∀j,n≤j→listed.getD j false=false)∧(∀(j:Nat) (o:Oper),j<n→ops[j]?=some o→listed.getD j false=true→∀e∈o.after,Region.binds .any e=true→listed.getD e.on false=true)∧(∀(i j:Nat) (p o:Oper) (s t:Nat) (u v:Value),i<n→j<n→i≠j→ops[i]?=some p→ops[j]?=some o→p.dst=some s→o.dst=some t→listed.getD i false=true→listed.getD j false=true→a.tmps[s]?=some u→a.tmps[t]?=some v→E i j u v∨E j i v u)∧Kept [] w0 w
 have main:∀fuel listed a w,I listed a w→(listed.toList.filter (fun b=> !b)).length=fuel→wpAny P .any ops Q fuel listed a w:=by
   have hend:∀fuel listed a w,I listed a w→(listed.toList.filter (fun b=> !b)).length=fuel→(∀j,j<n→listed.getD j false=true)→wpAny P .any ops Q fuel listed a w:=by
     intro fuel listed a w hI hfu hl;obtain⟨i1,i2,i3,i4,i5,i6,i7,i9,i8⟩:=hI;have hlist:listed=lists n ops.size:=by
       apply Array.ext_getElem?;intro j;by_cases hj:j<ops.size
       · have e:listed[j]?=some (listed.getD j false):=by simp [Array.getD,i1,hj]
         rw [e];unfold lists;rw [List.getElem?_toArray];by_cases hjn:j<n
         · rw [hl j hjn,List.getElem?_append_left (by simpa using hjn),List.getElem?_replicate_of_lt hjn]
         · rw [i6 j (by omega),List.getElem?_append_right (by simp;omega),List.getElem?_replicate_of_lt (by simp;omega)]
       · rw [Array.getElem?_eq_none (by omega),Array.getElem?_eq_none (by have:=K.le;simp [lists];omega)]
     have hfuel:fuel=ops.size-n:=by
       rw [← hfu,hlist];simp [lists,List.filter_append]
     have hval:∀(j:Nat),∃v,∀(o:Oper) (t:Nat),j<n→ops[j]?=some o→o.dst=some t→a.tmps[t]?=some v∧F j v w:=by
       intro j;by_cases hj:j<n
       · have hjs:j<ops.size:=Nat.lt_of_lt_of_le hj K.le;obtain⟨t,ht⟩:=K.dst j ops[j] hj (Array.getElem?_eq_getElem hjs);obtain⟨v,hv,hf⟩:=i5 j _ t hj (Array.getElem?_eq_getElem hjs) ht (hl j hj);refine⟨v,fun o t' _ ho ht'=> ?_⟩;rw [Array.getElem?_eq_getElem hjs] at ho;cases ho
         rw [ht] at ht';cases ht'
         exact⟨hv,hf⟩
       · exact⟨undef,fun o t hj' _ _=>absurd hj' hj⟩
     obtain⟨f,hf⟩:=Classical.axiomOfChoice hval;have hvs:∀(j:Nat) v,((List.range n).map f)[j]?=some v→j<n∧v=f j:=by
       intro j v hv;rw [List.getElem?_map] at hv;by_cases hj:j<n
       · rw [List.getElem?_range hj] at hv;exact⟨hj,by simpa using hv.symm⟩
       · rw [List.getElem?_eq_none (by simpa using hj)] at hv;simp at hv
     have hQ':=hQ ((List.range n).map f) w (by simp) (fun j v hv=>by
       obtain⟨hj,rfl⟩:=hvs j v hv;have hjs:j<ops.size:=Nat.lt_of_lt_of_le hj K.le;obtain⟨t,ht⟩:=K.dst j ops[j] hj (Array.getElem?_eq_getElem hjs);exact(hf j _ t hj (Array.getElem?_eq_getElem hjs) ht).2) (fun i j u v hne hu hv=>by
       obtain⟨hi,rfl⟩:=hvs i u hu;obtain⟨hj,rfl⟩:=hvs j v hv;have his:i<ops.size:=Nat.lt_of_lt_of_le hi K.le;have hjs:j<ops.size:=Nat.lt_of_lt_of_le hj K.le;obtain⟨s,hs⟩:=K.dst i ops[i] hi (Array.getElem?_eq_getElem his);obtain⟨t,ht⟩:=K.dst j ops[j] hj (Array.getElem?_eq_getElem hjs);exact i9 i j _ _ s t _ _ hi hj hne (Array.getElem?_eq_getElem his) (Array.getElem?_eq_getElem hjs) hs ht (hl i hi) (hl j hj) (hf i _ s hi (Array.getElem?_eq_getElem his) hs).1 (hf j _ t hj (Array.getElem?_eq_getElem hjs) ht).1) i8
     have hsame:Qz a0 (ops.toList.take n) ((List.range n).map f)=a:=by
       have hsz:=putAll_size (ops.toList.take n) ((List.range n).map f) a0;have htm:(Qz a0 (ops.toList.take n) ((List.range n).map f)).tmps=a.tmps:=by
         apply Array.ext_getElem?;intro t;by_cases hex:∃(j:Nat) (o:Oper),j<n∧ops[j]?=some o∧o.dst=some t
         · obtain⟨j,o,hj,ho,ht⟩:=hex;rw [(hf j o t hj ho ht).1];refine putAll_same (ops.toList.take n) _ a0 j o (f j) t (by rw [List.getElem?_take_of_lt hj];simpa using ho) (by rw [List.getElem?_map,List.getElem?_range hj];rfl) ht (hsl' o (Array.mem_of_getElem? ho) t ht) ?_;intro i k p q hp hq hne;have hin:i<n:=by
             have:=(List.getElem?_eq_some_iff.1 hp).1;rw [List.length_take] at this;omega
           have hkn:k<n:=by
             have:=(List.getElem?_eq_some_iff.1 hq).1;rw [List.length_take] at this;omega
           rw [List.getElem?_take_of_lt hin] at hp;rw [List.getElem?_take_of_lt hkn] at hq;exact K.apart i k p q hin hkn (by simpa using hp) (by simpa using hq) hne
         · have hno:∀p∈ops.toList.take n,p.dst≠some t:=by
             intro p hp e;obtain⟨j,hj,hpj⟩:=(hmemT p).1 hp;exact hex ⟨j,p,hj,hpj,e⟩
           rw [Zl _ _ _ _ hno,i4 t hno]
       have hdf:=hsz.2.trans i2.symm;generalize Qz a0 (ops.toList.take n) ((List.range n).map f)=A at*;obtain⟨x1,x2⟩:=A;obtain⟨y1,y2⟩:=a;simp only at htm hdf;subst htm hdf;rfl
     rw [hnr,Nat.add_sub_cancel_left] at hfuel;rw [hnr] at hlist;rw [hsame,← hlist,← hfuel] at hQ';exact hQ'
   intro fuel
   induction fuel with
   | zero=>
     intro listed a w hI hfu;refine hend 0 listed a w hI hfu (fun j hj=> ?_);obtain⟨i1,_⟩:=hI;have hjs:j<listed.size:=by rw [i1];exact Nat.lt_of_lt_of_le hj K.le
     cases hl:listed.getD j false with
     | true=>rfl
     | false=>
       exfalso;have hmem:false∈listed.toList.filter (fun b=> !b):=by
         rw [List.mem_filter];refine⟨?_,rfl⟩;simp only [Array.getD,hjs,dif_pos] at hl;rw [← hl];exact Array.getElem_mem_toList hjs
       rw [List.length_eq_zero_iff] at hfu;rw [hfu] at hmem;simp at hmem
   | succ fuel ih=>
     intro listed a w hI hfu;by_cases hfull:∀j,j<n→listed.getD j false=true
     · exact hend _ listed a w hI hfu hfull
     obtain⟨i1,i2,i3,i4,i5,i6,i7,i9,i8⟩:=hI;have hsome:∃j,j<n∧listed.getD j false=false∧∀i,i<j→listed.getD i false=true:=by
       have:∃j,j<n∧listed.getD j false=false:=by
         apply Classical.byContradiction;intro hno;exact hfull (fun j hj=>by
           cases hl:listed.getD j false with
           | true=>rfl
           | false=>exact absurd ⟨j,hj,hl⟩ hno)
       obtain⟨j,hj,hl⟩:=this
       induction j using Nat.strongRecOn with
       | _ j ihj=>
         by_cases h:∀i,i<j→listed.getD i false=true
         · exact⟨j,hj,hl,h⟩
         · apply Classical.byContradiction;intro hno;exact h (fun i hi=>by
             cases hli:listed.getD i false with
             | true=>rfl
             | false=>exact absurd (ihj i hi (by omega) hli) hno)
     obtain⟨j0,hj0,hlj0,hbefore⟩:=hsome;have hne:Region.ready .any ops listed≠ []:=by
       intro hr;have hjs:j0<ops.size:=Nat.lt_of_lt_of_le hj0 K.le;have hmem:j0∈Region.ready .any ops listed:=by
         rw [mem_ready];refine⟨?_,ops[j0],Array.getElem?_eq_getElem hjs,fun e he _=>hbefore e.on (K.back j0 _ hj0 (Array.getElem?_eq_getElem hjs) e he)⟩;simp only [Array.getD] at hlj0⊢;rw [dif_pos (by omega)] at hlj0⊢;exact hlj0
       rw [hr] at hmem;simp at hmem
     refine⟨fun h0=>absurd h0 hne,fun i hi=> ?_⟩;rw [mem_ready] at hi;obtain⟨r1,o,ho,r2⟩:=hi;have hio:i<ops.size:=(Array.getElem?_eq_some_iff.1 ho).1;have hil:i<listed.size:=by omega
     have hself:∀d,(listed.setIfInBounds i true).getD i d=true:=by intro d;simp [Array.getD,hil]
     have hin:i<n:=by
       apply Classical.byContradiction;intro h;have:=reaches_listed i6 i7 6 o (K.wait i j0 o (by omega) hj0 ho) r2;rw [hlj0] at this;cases this
     unfold wpOp;rw [ho];have hwt:Region.wanted o (yielded ops a.tmps)=true:=by simp [Region.wanted,K.guard i o hin ho]
     simp only [hwt,if_true];left;refine Oper.wp_mono ?_ (hop i o hin ho a w ?_ ?_ i8)
     · rintro a' w' ⟨v,rfl,hFv,hk,hE⟩;refine ih _ _ _ ⟨by simpa using i1,by rw [put_defers];exact i2,by rw [put_size];exact i3,?_,?_,?_,?_,?_,i8.trans hk⟩ ?_
       · intro t ht;rw [Zd _ _ _ _ (ht o ((hmemT o).2 ⟨i,hin,ho⟩))];exact i4 t ht
       · intro j p t hjn hp ht hlj;by_cases hji:j=i
         · subst hji;rw [ho] at hp;cases hp
           rw [ht];exact⟨v,ZR _ _ _ (by rw [i3];exact hsl' o (Array.mem_of_getElem? ho) t ht),hFv⟩
         · rw [getD_set_ne _ (fun e=>hji e.symm)] at hlj;obtain⟨u,hu,hfu'⟩:=i5 j p t hjn hp ht hlj;refine⟨u,?_,hF _ _ _ _ hfu' hk⟩;rw [Zd _ _ _ _ ?_]
           · exact hu
           · have:=K.apart i j o p hin hjn ho hp (fun e=>hji e.symm);rw [ht] at this;exact this
       · intro j hj;rw [getD_set_ne _ (by omega)];exact i6 j hj
       · intro j p hjn hp hlj e he hb;by_cases hji:j=i
         · subst hji;rw [ho] at hp;cases hp
           exact getD_set_true (r2 e he hb)
         · rw [getD_set_ne _ (fun e=>hji e.symm)] at hlj;exact getD_set_true (i7 j p hjn hp hlj e he hb)
       · have old:∀(j:Nat) (p:Oper) (t:Nat) (u:Value),j<n→j≠i→ops[j]?=some p→p.dst=some t→(listed.setIfInBounds i true).getD j false=true→(a.put o.dst v).tmps[t]?=some u→listed.getD j false=true∧a.tmps[t]?=some u:=by
           intro j p t u hjn hji hp ht hlj hu;rw [getD_set_ne _ (fun e=>hji e.symm)] at hlj;rw [Zd _ _ _ _ (by have:=K.apart i j o p hin hjn ho hp (fun e=>hji e.symm);rw [ht] at this;exact this)] at hu;exact⟨hlj,hu⟩
         have new:∀(q:Oper) (t:Nat) (u:Value),ops[i]?=some q→q.dst=some t→(a.put o.dst v).tmps[t]?=some u→u=v:=by
           intro q t u hq ht hu;rw [ho] at hq;cases hq
           rw [ht,ZR _ _ _ (by rw [i3];exact hsl' o (Array.mem_of_getElem? ho) t ht)] at hu;exact(Option.some.inj hu).symm
         intro j k p q s t u x hjn hkn hne hp hq hs ht hlj hlk hu hx;by_cases hji:j=i
         · subst hji;obtain⟨hlk',hx'⟩:=old k q t x hkn (fun e=>hne e.symm) hq ht hlk hx;obtain rfl:=new p s u hp hs hu;obtain⟨x',hx2,hfx⟩:=i5 k q t hkn hq ht hlk';rw [hx'] at hx2;cases hx2
           exact .inr (hE k x hkn (fun e=>hne e.symm) hfx)
         · obtain⟨hlj',hu'⟩:=old j p s u hjn hji hp hs hlj hu;by_cases hki:k=i
           · subst hki;obtain rfl:=new q t x hq ht hx;obtain⟨u',hu2,hfu2⟩:=i5 j p s hjn hp hs hlj';rw [hu'] at hu2;cases hu2
             exact .inl (hE j u hjn hji hfu2)
           · obtain⟨hlk',hx'⟩:=old k q t x hkn hki hq ht hlk hx;exact i9 j k p q s t u x hjn hkn hne hp hq hs ht hlj' hlk' hu' hx'
       · have:=unlisted_set' r1 hil;omega
     · intro t ht;have:=i4 t (fun p hp=>by
         have:=(List.all_eq_true.1 ht) p hp;simpa using this)
       simp only [Act.eval,Array.getD_eq_getD_getElem?,this]
     · intro k t hk hpt;obtain⟨p,hp,ht⟩:=Option.bind_eq_some_iff.1 hpt;simp only [Array.any_eq_true'] at hk;obtain⟨e,he,hb⟩:=hk;simp only [Bool.and_eq_true,beq_iff_eq] at hb;obtain⟨hb,rfl⟩:=hb;have hen:e.on<n:=by have:=K.back i o hin ho e he;omega
       obtain⟨v,hv,hf⟩:=i5 e.on p t hen hp ht (r2 e he hb);have:a.eval (.tmp t)=v:=by simp [Act.eval,Array.getD_eq_getD_getElem?,hv]
       rw [this];exact hf
 refine main _ _ _ _ ⟨by simp,rfl,rfl,fun t _=>rfl,?_,?_,?_,?_,?_⟩ (by simp)
 · intro j o t hj ho ht hl;simp [Array.getD,(Array.getElem?_eq_some_iff.1 ho).1] at hl
 · intro j _;simp [Array.getD]
 · intro j o hj ho hl;simp [Array.getD,(Array.getElem?_eq_some_iff.1 ho).1] at hl
 · intro i j p o s t u v hi hj hne hp ho hs ht hl;simp [Array.getD,(Array.getElem?_eq_some_iff.1 hp).1] at hl
 · exact⟨rfl,rfl,rfl,Nat.le_refl _,fun _ _ _=>rfl⟩
end
open Go.RowKit
def Blk (w:World) (b T:Nat) (vs:List Value):Prop:=w.heap[b]?=some (.cells vs.toArray T (0,0))
theorem Blk.new (w:World) (T:Nat) (vs:List Value):Blk (w.alloc (.cells vs.toArray T)) w.heap.size T vs:=heap_alloc_new w _
theorem Blk.lt {w:World} {b T:Nat} {vs:List Value} (h:Blk w b T vs):b<w.heap.size:=lt_of_block h
theorem Blk.kept {w w':World} {b T:Nat} {vs:List Value} {X:List Nat} (h:Blk w b T vs) (hk:Kept X w w') (hb:b∉X):Blk w' b T vs:=hk.heap h hb
theorem Blk.drew {w:World} {b T:Nat} {vs:List Value} (h:Blk w b T vs):Blk w.drew b T vs:=h
theorem Blk.put {w:World} {b T:Nat} {us vs:List Value} (h:Blk w b T us) (hl:us.length=vs.length):Blk (w.setCells b 0 vs) b T vs:=by
 have:=heap_sets (b:=b) (t:=T) (p:=(0,0)) vs w 0 [] us [] (by simpa [Blk] using h) rfl hl;simpa [Blk] using this
theorem Blk.part {w:World} {b T o:Nat} {pre mid post vs:List Value} (h:Blk w b T (pre++mid++post)) (ho:pre.length=o) (hl:mid.length=vs.length):Blk (w.setCells b o vs) b T (pre++vs++post):=
 heap_sets vs w o pre mid post h ho hl
theorem Blk.other {w:World} {b b' T o:Nat} {us vs:List Value} (h:Blk w b T us) (hne:b≠b'):Blk (w.setCells b' o vs) b T us:=by
 unfold Blk;rw [sets_ne _ _ _ _ hne];exact h
theorem Blk.set {w:World} {b T i:Nat} {us:List Value} (h:Blk w b T us) (v:Value):Blk (w.setCell ⟨b,i,none⟩ v) b T (us.set i v):=by
 unfold Blk;rw [heap_set h,List.setIfInBounds_toArray]
theorem Blk.set_other {w:World} {b b' T i:Nat} {us:List Value} (h:Blk w b T us) (hne:b≠b') (v:Value):Blk (w.setCell ⟨b',i,none⟩ v) b T us:=ZL h hne
theorem Blk.cell {w:World} {b T:Nat} {us:List Value} (h:Blk w b T us) (i:Nat):w.cell? ⟨b,i,none⟩=us[i]?:=by rw [cell_of_block h,List.getElem?_toArray]
theorem Blk.frozen {w:World} {b T:Nat} {us:List Value} (h:Blk w b T us) (i:Nat):w.frozen? ⟨b,i,none⟩=false:=QO h i
theorem Blk.range {w:World} {b T:Nat} {us:List Value} (h:Blk w b T us):w.rangeAt b 0 us:=fun j v hj=>by rw [Nat.zero_add,h.cell];exact hj
theorem Blk.rangeIn {w:World} {b T o:Nat} {us:List Value} (h:Blk w b T us) (vs:List Value) (hv:∀j,j<vs.length→us[o+j]?=vs[j]?):w.rangeAt b o vs:=fun j v hj=>by
 rw [h.cell,hv j (List.getElem?_eq_some_iff.1 hj).1];exact hj
theorem Blk.there {w:World} {b T o n:Nat} {us:List Value} (h:Blk w b T us) (hn:o+n≤us.length):w.there b o n:=fun j hj=>
 ⟨by rw [h.cell,List.getElem?_eq_getElem (by omega)];rfl,h.frozen _⟩
section
variable {ops:Array Oper} {rest:List Oper} {op:Oper} {a:Act} {w:World} {Q:Exit→Act→World→Prop}
theorem Qg {T n:Nat} (hT:Row T n) (hgd:op.guard=none) (x:Operand) (ho:op.op= .load T x) (b o:Nat) (hx:a.eval x= .pointer (some ⟨b,o,none⟩)) (vs:List Value) (hl:vs.length=n) (hA:w.rangeAt b o vs)
  (h:wpList Tryz.prog ops Q rest (a.put op.dst (Qd vs)) w):wpList Tryz.prog ops Q (op::rest) a w:=by
 obtain⟨d,h1,h2,h3⟩:=hT;exact wpList_load_mid (P:=Tryz.prog) hgd T x ho b o hx vs d hA h1 h2 (by rw [hl];exact h3) h
theorem wpStoreA {T n:Nat} (hT:Row T n) (hgd:op.guard=none) (x y:Operand) (ho:op.op= .store T x y) (b o:Nat) (vs:List Value) (hx:a.eval x= .pointer (some ⟨b,o,none⟩)) (hy:a.eval y=Qd vs) (hl:vs.length=n) (h1:∀v∈vs,v.oneCell'=true) (hA:w.there b o n)
  (h:wpList Tryz.prog ops Q rest (a.put op.dst undef) (w.setCells b o vs)):wpList Tryz.prog ops Q (op::rest) a w:=by
 obtain⟨d,g1,g2,g3⟩:=hT;exact wpList_store_mid (P:=Tryz.prog) hgd T x y ho b o vs.toArray hx hy (by simpa [hl] using hA) (by simpa [hl] using g3) (all_oneCell_toArray h1) h
theorem wpAllocA {T:Nat} (vs:List Value) (hr:∀w:World,(Instr.alloc T true (.tuple #[])).run Tryz.prog w= .ok (P0 w.heap.size) (w.alloc (.cells vs.toArray T))) (hgd:op.guard=none) (ho:op.op= .alloc T)
  (h:wpList Tryz.prog ops Q rest (a.put op.dst (P0 w.heap.size)) (w.alloc (.cells vs.toArray T))):wpList Tryz.prog ops Q (op::rest) a w:=
 wpList_plain hgd fun K hK=>by
  unfold Oper.wp execOp;simp only [ho,Sem.run_bind,hr,Result.andThen_ok];exact hK _ _ h
theorem QG {T:Nat} (vs:List Value) (hr:∀w:World,(Instr.build T #[]).run Tryz.prog w= .ok (Qd vs) w) (hgd:op.guard=none) (ho:op.op= .build T #[])
  (h:wpList Tryz.prog ops Q rest (a.put op.dst (Qd vs)) w):wpList Tryz.prog ops Q (op::rest) a w:=
 wpList_plain hgd fun K hK=>by
  unfold Oper.wp execOp;simp only [ho,Array.map_empty,Sem.run_bind,hr,Result.andThen_ok];exact hK _ _ h
theorem run_boxA (T:Nat) (w:World) (vs:List Value):(Instr.box T (Qd vs)).run Tryz.prog w= .ok (P0 w.heap.size) (w.alloc (.cells vs.toArray T)):=by
 simp [Instr.box,Qd,newVar,newRow,Value.cells]
theorem wpBoxA {T:Nat} (hgd:op.guard=none) (x:Operand) (ho:op.op= .box T x) (vs:List Value) (hx:a.eval x=Qd vs)
  (h:wpList Tryz.prog ops Q rest (a.put op.dst (P0 w.heap.size)) (w.alloc (.cells vs.toArray T))):wpList Tryz.prog ops Q (op::rest) a w:=
 wpList_plain hgd fun K hK=>by
  unfold Oper.wp execOp;simp only [ho,hx,Sem.run_bind,run_boxA,Result.andThen_ok];exact hK _ _ h
theorem wpEqlA (T r:Nat) (hG:Tryz.prog.eqGuardType Tryz.prog.depth T=false) (x y:Operand) (hgd:op.guard=none) (ho:op.op= .binOp .eql T x y r) (vs us:List Value) (hx:a.eval x=Qd vs) (hy:a.eval y=Qd us) (c:Bool)
  (he:(Op.equal T (Qd vs) (Qd us)).run Tryz.prog w= .ok c w)
  (h:wpList Tryz.prog ops Q rest (a.put op.dst (.bool c)) w):wpList Tryz.prog ops Q (op::rest) a w:=
 wpList_plain hgd fun K hK=>by
  unfold Oper.wp execOp;simp only [Qd] at he hx hy;have hg:(eqGuard .eql T x y (.agg vs.toArray) (.agg us.toArray)).run Tryz.prog w= .ok () w:=by simp [eqGuard,Sem.run_bind,hG]
  have hb:(binOp BinOp.eql T (.agg vs.toArray) (.agg us.toArray)).run Tryz.prog w= .ok (.bool c) w:=by simp only [binOp,Sem.run_bind,he,Result.andThen_ok,Sem.run_pure]
  simp only [ho,hx,hy,Sem.run_bind,hg,hb,Result.andThen_ok];exact hK _ _ h
end
theorem Zp (W : World) (d T o : Nat) (xs ys : Array Value) (f : Field) (fs : List Field) (a b : Value) (c e : Bool) (hn : f.name ≠ "_") (hT : f.type = T) (ho : f.offset = o) (pa : (part T xs o).run Tryz.prog W = .ok a W) (pb : (part T ys o).run Tryz.prog W = .ok b W) (he : (Op.equalIn d T a b).run Tryz.prog W = .ok c W) (hf : (Op.eqFields d xs ys fs).run Tryz.prog W = .ok e W) :
  (Op.eqFields d xs ys (f::fs)).run Tryz.prog W= .ok (c&&e) W:=by
 subst hT ho;simp only [Op.eqFields,ne_eq,hn,not_false_eq_true,if_true,Sem.run_bind,pa,pb,he,Result.andThen_ok];cases c <;> simp [hf]
theorem part2 (W:World) (vs:Array Value) (o:Nat) (v:Value) (h:vs[o]?=some v):(part 2 vs o).run Tryz.prog W= .ok v W:=by simp [part,isAgg,run_underlying Tryz.underlying2,h]
theorem part3 (W:World) (vs:Array Value) (o:Nat) (v:Value) (h:vs[o]?=some v):(part 3 vs o).run Tryz.prog W= .ok v W:=by simp [part,isAgg,run_underlying Tryz.underlying3,h]
theorem Zq {w:World} {b T n:Nat} {vs:List Value} (hT:Row T n) (hl:vs.length=n) (h:Blk w b T vs):(loadVar T ⟨b,0,none⟩).run Tryz.prog w= .ok (Qd vs) w:=by
 obtain⟨d,h1,h2,h3⟩:=hT;exact run_loadVar_mid (P:=Tryz.prog) w b 0 T vs d h.range h1 h2 (by rw [hl];exact h3)
theorem Qb {w:World} {b T:Nat} {vs:List Value} (h:Blk w b T vs) (i:Nat) (v:Value) (hi:vs[i]?=some v):w.cell? ⟨b,i,none⟩=some v:=by rw [h.cell];exact hi
theorem QM {ops:Array Oper} {rest:List Oper} {o1 o2:Oper} {a:Act} {w:World} {Q:Exit→Act→World→Prop} {T n:Nat} (hT:Row T n) (zv:List Value) (hz:zv.length=n) (hr:∀w:World,(Instr.alloc T true (.tuple #[])).run Tryz.prog w= .ok (P0 w.heap.size) (w.alloc (.cells zv.toArray T)))
  (d:Nat) (hd:o1.dst=some d) (hg1:o1.guard=none) (ho1:o1.op= .alloc T) (y:Operand) (hg2:o2.guard=none) (ho2:o2.op= .store T (.tmp d) y) (hd2:o2.dst=none)
  (vs:List Value) (hl:vs.length=n) (h1:∀v∈vs,v.oneCell'=true) (hx:(a.put (some d) (P0 w.heap.size)).eval (.tmp d)=P0 w.heap.size) (hy:(a.put (some d) (P0 w.heap.size)).eval y=Qd vs)
  (h:∀W b,b=w.heap.size→Blk W b T vs→Kept [] w W→wpList Tryz.prog ops Q rest (a.put (some d) (P0 b)) W):wpList Tryz.prog ops Q (o1::o2::rest) a w:=by
 refine wpAllocA zv hr hg1 ho1 ?_;rw [hd];have hb:Blk (w.alloc (.cells zv.toArray T)) w.heap.size T zv:=Blk.new w T zv;refine wpStoreA hT hg2 (.tmp d) y ho2 w.heap.size 0 vs hx hy hl h1 (hb.there (by omega)) ?_;rw [hd2];exact h _ _ rfl (hb.put (by omega)) (((Kept.refl _ _).alloc _).setCells _ _ (by omega))
section
variable {ops:Array Oper} {rest:List Oper} {op:Oper} {a:Act} {w:World} {Q:Exit→Act→World→Prop}
theorem Qp {T:Nat} (hgd:op.guard=none) (x:Operand) (ho:op.op= .box T x) (vs:List Value) (hx:a.eval x=Qd vs)
  (h:∀W b,b=w.heap.size→Blk W b T vs→Kept [] w W→wpList Tryz.prog ops Q rest (a.put op.dst (P0 b)) W):wpList Tryz.prog ops Q (op::rest) a w:=
 wpBoxA hgd x ho vs hx (h _ _ rfl (Blk.new w T vs) ((Kept.refl _ _).alloc _))
theorem Qv {T:Nat} (vs:List Value) (hr:∀w:World,(Instr.alloc T true (.tuple #[])).run Tryz.prog w= .ok (P0 w.heap.size) (w.alloc (.cells vs.toArray T))) (d:Nat) (_:op.dst=some d) (hgd:op.guard=none) (ho:op.op= .alloc T)
  (h:∀W b,b=w.heap.size→Blk W b T vs→Kept [] w W→wpList Tryz.prog ops Q rest (a.put op.dst (P0 b)) W):wpList Tryz.prog ops Q (op::rest) a w:=
 wpAllocA vs hr hgd ho (h _ _ rfl (Blk.new w T vs) ((Kept.refl _ _).alloc _))
end
section
variable {o:Oper} {a:Act} {w:World} {K:Act→World→Prop} {Q:Exit→Act→World→Prop}
theorem Qw {T n:Nat} (hT:Row T n) (x:Operand) (ho:o.op= .load T x) (b off:Nat) (hx:a.eval x= .pointer (some ⟨b,off,none⟩)) (vs:List Value) (hl:vs.length=n) (hA:w.rangeAt b off vs)
  (h:K (a.put o.dst (Qd vs)) w):o.wp Tryz.prog a w K Q:=by
 obtain⟨d,h1,h2,h3⟩:=hT;exact wp_load_mid (P:=Tryz.prog) T x ho b off hx vs d hA h1 h2 (by rw [hl];exact h3) h
theorem wp_storeA {T n:Nat} (hT:Row T n) (x y:Operand) (ho:o.op= .store T x y) (b off:Nat) (vs:List Value) (hx:a.eval x= .pointer (some ⟨b,off,none⟩)) (hy:a.eval y=Qd vs) (hl:vs.length=n) (h1:∀v∈vs,v.oneCell'=true) (hA:w.there b off n)
  (h:K (a.put o.dst undef) (w.setCells b off vs)):o.wp Tryz.prog a w K Q:=by
 obtain⟨d,g1,g2,g3⟩:=hT;exact wp_store_mid (P:=Tryz.prog) T x y ho b off vs.toArray hx hy (by simpa [hl] using hA) (by simpa [hl] using g3) (all_oneCell_toArray h1) h
theorem Zh {T n:Nat} (hT:Row T n) (x y:Operand) (ho:o.op= .store T x y) (hd:o.dst=none) (b off:Nat) (vs:List Value) (hx:a.eval x= .pointer (some ⟨b,off,none⟩)) (hy:a.eval y=Qd vs) (hl:vs.length=n) (h1:∀v∈vs,v.oneCell'=true) (hA:w.there b off n)
  (h:K a (w.setCells b off vs)):o.wp Tryz.prog a w K Q:=by
 refine wp_storeA hT x y ho b off vs hx hy hl h1 hA ?_;rw [hd];exact h
theorem wp_allocA {T:Nat} (vs:List Value) (hr:∀w:World,(Instr.alloc T true (.tuple #[])).run Tryz.prog w= .ok (P0 w.heap.size) (w.alloc (.cells vs.toArray T))) (ho:o.op= .alloc T)
  (h:K (a.put o.dst (P0 w.heap.size)) (w.alloc (.cells vs.toArray T))):o.wp Tryz.prog a w K Q:=by
 unfold Oper.wp execOp;simp only [ho,Sem.run_bind,hr,Result.andThen_ok];exact h
theorem Qq {P:Program} (f:FuncId) (args:Array Operand) (ts:Array TypeId) (ho:o.op= .call { callee:= .value (.func f),args:=args,argTypes:=ts })
  (vs:Array Value) (hv:args.map a.eval=vs) (hcf:(callFunc f vs).run P w= .ok (.enter f vs) w) (h:Calls P f vs w fun e w'=>∃v,e= .returned v∧K (a.put o.dst v) w'):o.wp P a w K Q:=by
 subst hv;unfold Oper.wp execOp;simp only [ho];simp [resolve,invoke,go_sem,hcf];refine h.mono ?_;rintro e w' ⟨v,rfl,hk⟩;exact hk
end
theorem Zm {ops:Array Oper} {rest:List Oper} {op:Oper} {a:Act} {w:World} {Q:Exit→Act→World→Prop} {T:Nat} (hgd:op.guard=none) (parts:Array (Nat×Operand)) (ho:op.op= .build T parts) (ps:Array (Nat×Value)) (hp:(parts.map fun(i,x)=>(i,a.eval x))=ps) (vs:List Value)
  (hr:(Instr.build T ps).run Tryz.prog w= .ok (Qd vs) w) (h:wpList Tryz.prog ops Q rest (a.put op.dst (Qd vs)) w):wpList Tryz.prog ops Q (op::rest) a w:=
 wpList_plain hgd fun K hK=>by
  subst hp;unfold Oper.wp execOp;simp only [ho,Sem.run_bind,hr,Result.andThen_ok];exact hK _ _ h
inductive Fact
 | is (v:Value)
 | new (T:Nat) (vs:List Value) (B:Nat)
def Fact.at (v:Value) (w:World):Fact→Prop
 | .is u=>v=u
 | .new T vs B=>∃q,v=P0 q∧B≤q∧Blk w q T vs
def tab (fs:List Fact) (j:Nat) (v:Value) (w:World):Prop:=match fs[j]? with
 | some f=>f.at v w
 | none=>True
theorem tab_kept (fs:List Fact):∀j v w w',tab fs j v w→Kept [] w w'→tab fs j v w':=by
 intro j v w w' h hk;unfold tab at*;cases hf:fs[j]? with
 | none=>trivial
 | some f=>
  rw [hf] at h;cases f with
  | is u=>exact h
  | new T vs B=>
   obtain⟨q,h1,h2,h3⟩:=h;exact⟨q,h1,h2,h3.kept hk (by simp)⟩
def apartE (L:List Nat) (i j:Nat) (u v:Value):Prop:=i∈L→j∈L→u≠v
theorem apart_no {L:List Nat} {j:Nat} (h:j∉L) (i:Nat) (u v:Value):apartE L i j u v:=fun _ hj=>absurd hj h
section
variable {ops:Array Oper} {rest:List Oper} {op:Oper} {a:Act} {w:World} {Q:Exit→Act→World→Prop}
theorem wpBuildG {T:Nat} (parts:Array (Nat×Operand)) (ho:op.op= .build T parts) (hw:Region.wanted op (yielded ops a.tmps)=true) (ps:Array (Nat×Value)) (hp:(parts.map fun(i,x)=>(i,a.eval x))=ps) (vs:List Value)
  (hr:(Instr.build T ps).run Tryz.prog w= .ok (Qd vs) w) (h:wpList Tryz.prog ops Q rest (a.put op.dst (Qd vs)) w):wpList Tryz.prog ops Q (op::rest) a w:=
 BigFrame.wpList_want hw fun K hK=>by
  subst hp;unfold Oper.wp execOp;simp only [ho,Sem.run_bind,hr,Result.andThen_ok];exact hK _ _ h
theorem wpNeqG (T r:Nat) (hG:Tryz.prog.eqGuardType Tryz.prog.depth T=false) (x y:Operand) (ho:op.op= .binOp .neq T x y r) (hw:Region.wanted op (yielded ops a.tmps)=true) (vs us:List Value) (hx:a.eval x=Qd vs) (hy:a.eval y=Qd us) (c:Bool)
  (he:(Op.equal T (Qd vs) (Qd us)).run Tryz.prog w= .ok c w)
  (h:wpList Tryz.prog ops Q rest (a.put op.dst (.bool (!c))) w):wpList Tryz.prog ops Q (op::rest) a w:=
 BigFrame.wpList_want hw fun K hK=>by
  unfold Oper.wp execOp;simp only [Qd] at he hx hy;have hg:(eqGuard .neq T x y (.agg vs.toArray) (.agg us.toArray)).run Tryz.prog w= .ok () w:=by simp [eqGuard,Sem.run_bind,hG]
  have hb:(binOp BinOp.neq T (.agg vs.toArray) (.agg us.toArray)).run Tryz.prog w= .ok (.bool (!c)) w:=by simp only [binOp,Sem.run_bind,he,Result.andThen_ok,Sem.run_pure]
  simp only [ho,hx,hy,Sem.run_bind,hg,hb,Result.andThen_ok];exact hK _ _ h
theorem wpEqlG (T r:Nat) (hG:Tryz.prog.eqGuardType Tryz.prog.depth T=false) (x y:Operand) (ho:op.op= .binOp .eql T x y r) (hw:Region.wanted op (yielded ops a.tmps)=true) (vs us:List Value) (hx:a.eval x=Qd vs) (hy:a.eval y=Qd us) (c:Bool)
  (he:(Op.equal T (Qd vs) (Qd us)).run Tryz.prog w= .ok c w)
  (h:wpList Tryz.prog ops Q rest (a.put op.dst (.bool c)) w):wpList Tryz.prog ops Q (op::rest) a w:=
 BigFrame.wpList_want hw fun K hK=>by
  unfold Oper.wp execOp;simp only [Qd] at he hx hy;have hg:(eqGuard .eql T x y (.agg vs.toArray) (.agg us.toArray)).run Tryz.prog w= .ok () w:=by simp [eqGuard,Sem.run_bind,hG]
  have hb:(binOp BinOp.eql T (.agg vs.toArray) (.agg us.toArray)).run Tryz.prog w= .ok (.bool c) w:=by simp only [binOp,Sem.run_bind,he,Result.andThen_ok,Sem.run_pure]
  simp only [ho,hx,hy,Sem.run_bind,hg,hb,Result.andThen_ok];exact hK _ _ h
end
theorem wp_buildP {o:Oper} {a:Act} {w:World} {K:Act→World→Prop} {Q:Exit→Act→World→Prop} {T:Nat} (parts:Array (Nat×Operand)) (ho:o.op= .build T parts) (ps:Array (Nat×Value)) (hp:(parts.map fun(i,x)=>(i,a.eval x))=ps) (vs:List Value)
  (hr:(Instr.build T ps).run Tryz.prog w= .ok (Qd vs) w) (h:K (a.put o.dst (Qd vs)) w):o.wp Tryz.prog a w K Q:=by
 subst hp;unfold Oper.wp execOp;simp only [ho,Sem.run_bind,hr,Result.andThen_ok];exact h
theorem wp_assign {o:Oper} {a:Act} {w:World} {K:Act→World→Prop} {Q:Exit→Act→World→Prop} (x:Operand) (ho:o.op= .assign x) (h:K (a.put o.dst (a.eval x)) w):o.wp Tryz.prog a w K Q:=by
 unfold Oper.wp execOp;simp only [ho];exact h
theorem QC:Row 23 5:=⟨_,Tryz.underlying23,rfl,by kernel_rfl⟩
theorem row58:Row 190 4:=⟨_,Tryz.underlying190,rfl,by kernel_rfl⟩
def I64 (n:Int):Prop:= -9223372036854775808≤n∧n≤9223372036854775807
structure Job where
 n:Int
 p:Int
 f:Int
 l:Int
 t:Int
def Qf (j:Job):List Value:= [.int .i64 j.n,.int .i64 j.p,.int .i64 j.f,.int .i64 j.l,.int .i64 j.t]
def ZK (a b c d:Int):List Value:= [.int .i64 a,.int .i64 b,.int .i64 c,.int .i64 d]
theorem jobC_one (j:Job):∀v∈Qf j,v.oneCell'=true:=by
 intro v hv;simp only [Qf,List.mem_cons,List.mem_nil_iff,or_false] at hv;rcases hv with rfl | rfl | rfl | rfl | rfl <;> rfl
theorem fourC_one (a b c d:Int):∀v∈ZK a b c d,v.oneCell'=true:=by
 intro v hv;simp only [ZK,List.mem_cons,List.mem_nil_iff,or_false] at hv;rcases hv with rfl | rfl | rfl | rfl <;> rfl
theorem QT (w:World):(Instr.alloc 23 true (.tuple #[])).run Tryz.prog w= .ok (P0 w.heap.size) (w.alloc (.cells (Qf ⟨0,0,0,0,0⟩).toArray 23)):=by kernel_rfl
theorem zero58 (w:World):(Instr.alloc 190 true (.tuple #[])).run Tryz.prog w= .ok (P0 w.heap.size) (w.alloc (.cells (ZK 0 0 0 0).toArray 190)):=by kernel_rfl
theorem Job.cells {W:World} {b:Nat} {j:Job} (h:Blk W b 23 (Qf j)):W.cell? ⟨b,0,none⟩=some (.int .i64 j.n)∧W.cell? ⟨b,1,none⟩=some (.int .i64 j.p)∧W.cell? ⟨b,2,none⟩=some (.int .i64 j.f)∧W.cell? ⟨b,3,none⟩=some (.int .i64 j.l)∧W.cell? ⟨b,4,none⟩=some (.int .i64 j.t):=
 ⟨Qb h 0 _ rfl,Qb h 1 _ rfl,Qb h 2 _ rfl,Qb h 3 _ rfl,Qb h 4 _ rfl⟩
theorem four_cells {W:World} {b T:Nat} {x y z u:Int} (h:Blk W b T (ZK x y z u)):W.cell? ⟨b,0,none⟩=some (.int .i64 x)∧W.cell? ⟨b,1,none⟩=some (.int .i64 y)∧W.cell? ⟨b,2,none⟩=some (.int .i64 z)∧W.cell? ⟨b,3,none⟩=some (.int .i64 u):=
 ⟨Qb h 0 _ rfl,Qb h 1 _ rfl,Qb h 2 _ rfl,Qb h 3 _ rfl⟩
open Go.RowKit
def Job.may (j:Job):Bool:=decide (2≤j.n∧j.n≤8∧1≤j.p∧j.p≤16∧1≤j.f∧j.f≤16∧2≤j.l∧j.l≤64∧2≤j.t∧j.t≤100)
theorem below28 (n b:Int) (w:World):Calls Tryz.prog 126 #[.int .i64 n,.int .i64 b] w fun e w'=>e= .returned (.bool (decide (0≤n∧n<b)))∧w'=w:=by
 by_cases h1:0≤n
 · go_enter Tryz.func126,Tryz.ntmps126
   go_wp2_with fail
   go_ret
   exact⟨QB (by simp;omega),rfl⟩
 · go_enter Tryz.func126,Tryz.ntmps126
   go_wp2_with fail
   go_ret
   exact⟨QB (by simp;omega),rfl⟩
theorem may10 (j:Job) (w:World):Calls Tryz.prog 125 #[Qd (Qf j)] w fun e w'=>e= .returned (.bool j.may)∧Kept [] w w':=by
 by_cases h0:2≤j.n
 rotate_left
 · go_enter Tryz.func125,Tryz.ntmps125
   go_wp2_with (refine Qp rfl (.tmp 0) rfl (Qf j) rfl ?_;intro W1 b1 e1 B1 K1;obtain⟨c0,c1,c2,c3,c4⟩:=Job.cells B1;have KK:=hide K1;clear e1 B1 K1)
   go_ret
   exact⟨QB (by simp [Job.may];omega),Qa KK⟩
 by_cases h1:j.n≤8
 rotate_left
 · go_enter Tryz.func125,Tryz.ntmps125
   go_wp2_with (refine Qp rfl (.tmp 0) rfl (Qf j) rfl ?_;intro W1 b1 e1 B1 K1;obtain⟨c0,c1,c2,c3,c4⟩:=Job.cells B1;have KK:=hide K1;clear e1 B1 K1)
   go_ret
   exact⟨QB (by simp [Job.may];omega),Qa KK⟩
 by_cases h2:1≤j.p
 rotate_left
 · go_enter Tryz.func125,Tryz.ntmps125
   go_wp2_with (refine Qp rfl (.tmp 0) rfl (Qf j) rfl ?_;intro W1 b1 e1 B1 K1;obtain⟨c0,c1,c2,c3,c4⟩:=Job.cells B1;have KK:=hide K1;clear e1 B1 K1)
   go_ret
   exact⟨QB (by simp [Job.may];omega),Qa KK⟩
 by_cases h3:j.p≤16
 rotate_left
 · go_enter Tryz.func125,Tryz.ntmps125
   go_wp2_with (refine Qp rfl (.tmp 0) rfl (Qf j) rfl ?_;intro W1 b1 e1 B1 K1;obtain⟨c0,c1,c2,c3,c4⟩:=Job.cells B1;have KK:=hide K1;clear e1 B1 K1)
   go_ret
   exact⟨QB (by simp [Job.may];omega),Qa KK⟩
 by_cases h4:1≤j.f
 rotate_left
 · go_enter Tryz.func125,Tryz.ntmps125
   go_wp2_with (refine Qp rfl (.tmp 0) rfl (Qf j) rfl ?_;intro W1 b1 e1 B1 K1;obtain⟨c0,c1,c2,c3,c4⟩:=Job.cells B1;have KK:=hide K1;clear e1 B1 K1)
   go_ret
   exact⟨QB (by simp [Job.may];omega),Qa KK⟩
 by_cases h5:j.f≤16
 rotate_left
 · go_enter Tryz.func125,Tryz.ntmps125
   go_wp2_with (refine Qp rfl (.tmp 0) rfl (Qf j) rfl ?_;intro W1 b1 e1 B1 K1;obtain⟨c0,c1,c2,c3,c4⟩:=Job.cells B1;have KK:=hide K1;clear e1 B1 K1)
   go_ret
   exact⟨QB (by simp [Job.may];omega),Qa KK⟩
 by_cases h6:2≤j.l
 rotate_left
 · go_enter Tryz.func125,Tryz.ntmps125
   go_wp2_with (refine Qp rfl (.tmp 0) rfl (Qf j) rfl ?_;intro W1 b1 e1 B1 K1;obtain⟨c0,c1,c2,c3,c4⟩:=Job.cells B1;have KK:=hide K1;clear e1 B1 K1)
   go_ret
   exact⟨QB (by simp [Job.may];omega),Qa KK⟩
 by_cases h7:j.l≤64
 rotate_left
 · go_enter Tryz.func125,Tryz.ntmps125
   go_wp2_with (refine Qp rfl (.tmp 0) rfl (Qf j) rfl ?_;intro W1 b1 e1 B1 K1;obtain⟨c0,c1,c2,c3,c4⟩:=Job.cells B1;have KK:=hide K1;clear e1 B1 K1)
   go_ret
   exact⟨QB (by simp [Job.may];omega),Qa KK⟩
 by_cases h8:2≤j.t
 rotate_left
 · go_enter Tryz.func125,Tryz.ntmps125
   go_wp2_with (refine Qp rfl (.tmp 0) rfl (Qf j) rfl ?_;intro W1 b1 e1 B1 K1;obtain⟨c0,c1,c2,c3,c4⟩:=Job.cells B1;have KK:=hide K1;clear e1 B1 K1)
   go_ret
   exact⟨QB (by simp [Job.may];omega),Qa KK⟩
 go_enter Tryz.func125,Tryz.ntmps125
 go_wp2_with (refine Qp rfl (.tmp 0) rfl (Qf j) rfl ?_;intro W1 b1 e1 B1 K1;obtain⟨c0,c1,c2,c3,c4⟩:=Job.cells B1;have KK:=hide K1;clear e1 B1 K1)
 go_ret
 exact⟨QB (by simp [Job.may];omega),Qa KK⟩
theorem logSize26 (j:Job) (h:j.may=true) (w:World):Calls Tryz.prog 158 #[Qd (Qf j)] w fun e w'=>e= .returned (.int .i64 (1+2*j.l))∧Kept [] w w':=by
 simp only [Job.may,decide_eq_true_eq] at h;have hw1:IntKind.i64.wrap (2*j.l)=2*j.l:=by rw [IntKind.wrap_i64];omega
 have hw2:IntKind.i64.wrap (1+2*j.l)=1+2*j.l:=by rw [IntKind.wrap_i64];omega
 go_enter Tryz.func158,Tryz.ntmps158
 go_wp2_with (refine Qp rfl (.tmp 0) rfl (Qf j) rfl ?_;intro W1 b1 e1 B1 K1;obtain⟨c0,c1,c2,c3,c4⟩:=Job.cells B1;have KK:=hide K1;clear e1 B1 K1)
 go_ret
 exact⟨rfl,Qa KK⟩
open Go.RowKit
theorem cf26 (vs:Array Value) (w:World):(callFunc 158 vs).run Tryz.prog w= .ok (.enter 158 vs) w:=by kernel_rfl
section
variable {o:Oper} {a:Act} {w:World} {K:Act→World→Prop} {Q:Exit→Act→World→Prop}
theorem o_mul3 (x y:Operand) (ho:o.op= .binOp .mul 3 x y 3) (m n:Int) (hm: -1000000≤m*n∧m*n≤1000000) (hx:a.eval x= .int .i64 m) (hy:a.eval y= .int .i64 n) (h:K (a.put o.dst (.int .i64 (m*n))) w):o.wp Tryz.prog a w K Q:=by
 have hw:IntKind.i64.wrap (m*n)=m*n:=by rw [IntKind.wrap_i64];omega
 unfold Oper.wp execOp;simp only [ho,hx,hy];simp [go_sem,hw];exact h
theorem Zx (x:Operand) (ho:o.op= .load 3 x) (p:Addr) (v:Value) (hx:a.eval x= .pointer (some p)) (hc:w.cell? p=some v) (h:K (a.put o.dst v) w):o.wp Tryz.prog a w K Q:=by
 unfold Oper.wp execOp;simp only [ho,hx];simp [go_sem,hc];exact h
theorem o_field0 (x:Operand) (ho:o.op= .fieldAddr 23 x 0) (b:Nat) (hx:a.eval x=P0 b) (h:K (a.put o.dst (P0 b)) w):o.wp Tryz.prog a w K Q:=by
 unfold Oper.wp execOp;simp only [ho,hx];simp [go_sem];exact h
theorem o_field1 (x:Operand) (ho:o.op= .fieldAddr 23 x 1) (b:Nat) (hx:a.eval x=P0 b) (h:K (a.put o.dst (.pointer (some ⟨b,1,none⟩))) w):o.wp Tryz.prog a w K Q:=by
 unfold Oper.wp execOp;simp only [ho,hx];simp [go_sem];exact h
end
theorem vs10 {vs:List Value} (h:vs.length=10):∃a b c d e f g i j k,vs= [a,b,c,d,e,f,g,i,j,k]:=by
 match vs,h with
 | [a,b,c,d,e,f,g,i,j,k],_=>exact ⟨a,b,c,d,e,f,g,i,j,k,rfl⟩
def Job.L (j:Job):Int:=j.n*(1+2*j.l)
theorem Job.L_le {j:Job} (h:j.may=true):10≤j.L∧j.L≤1032:=by
 simp only [Job.may,decide_eq_true_eq] at h;unfold Job.L;constructor
 · have:2*5≤j.n*(1+2*j.l):=Int.mul_le_mul (by omega) (by omega) (by omega) (by omega);omega
 · have:j.n*(1+2*j.l)≤8*129:=Int.mul_le_mul (by omega) (by omega) (by omega) (by omega);omega
theorem Job.p_le {j:Job} (h:j.may=true):1≤j.p∧j.p≤16:=by
 simp only [Job.may,decide_eq_true_eq] at h;omega
def Job.ends (j:Job):Nat→List Value
 | 0=>ZK 1 8 j.L (j.p*2)
 | 1=>ZK 1 8 j.L (j.p*2)
 | 2=>ZK 1 9 j.L (j.p*2)
 | 3=>ZK 1 9 (j.L+9) (j.p*2)
 | _=>ZK 1 9 (j.L+9) (j.p*2+(j.L+9))
theorem build58 (w:World) (x y z u:Int):(Instr.build 190 #[(0,.int .i64 x),(1,.int .i64 y),(2,.int .i64 z),(3,.int .i64 u)]).run Tryz.prog w= .ok (Qd (ZK x y z u)) w:=by kernel_rfl
theorem res29 (w:World) (z:Nat) (a b c d:Int) (tmps:Array Value) (h4:tmps[2]?.getD undef=P0 z) (hb:Blk w z 190 (ZK a b c d)):(results Tryz.f151 tmps).run Tryz.prog w= .ok (Qd (ZK a b c d)) w:=by
 have:=Zq row58 rfl hb;simp [results,Tryz.results151,h4,this,asAddr]
set_option maxRecDepth 100000 in
theorem ends29 (j:Job) (hm:j.may=true) (w:World):Calls Tryz.prog 151 #[Qd (Qf j)] w fun e w'=>e= .returned (Qd (ZK 1 9 (j.L+9) (j.p*2+(j.L+9))))∧Kept [] w w':=by
 have hL:=Job.L_le hm;have hp:=Job.p_le hm;have hLd:Hid (j.n*(1+2*j.l)=j.L):=rfl;go_enter Tryz.func151,Tryz.ntmps151
 go_wp2_with (
   first
   |(refine Qp rfl (.tmp 0) rfl (Qf j) rfl ?_;intro W0 b0 e0 B0 K0;have A0:=hide B0;have KA:=hide K0;clear e0 B0 K0)
   |(refine Qv (ZK 0 0 0 0) zero58 2 rfl rfl rfl ?_;intro W2 zb ez BZ1 K2;have d0:=hide ((Qa A0).kept K2 (by simp));have dz:=hide BZ1;have nz:Hid (w.heap.size≤zb):=(by have:=(Qa KA).size;show _≤_;omega);have dk:=hide ((Qa KA).trans K2);clear ez BZ1 K2 A0 KA))
 refine wp_region_prefix mixed 10 1 rfl (by kernel_rfl) (tab [.is (P0 b0),.is (.int .i64 j.n),.is (Qd (Qf j)),.is (.int .i64 (1+2*j.l)),.is (.int .i64 j.L),.is (.pointer (some ⟨b0,1,none⟩)),.is (.int .i64 j.p),.is (.int .i64 (j.p*2)),.is (Qd (ZK 1 8 j.L (j.p*2))),.new 190 (ZK 0 0 0 0) W2.heap.size]) (apartE []) (tab_kept _) (by kernel_rfl) ?_ ?_
 · intro i o hi ho a w2 hout hin hk
   match i,ho with
   | 0,ho=>
    obtain rfl:=Oj9 ho;exact o_field0 (.tmp 1) rfl b0 ((hout 1 (by kernel_rfl)).trans rfl) ⟨_,rfl,rfl,Kept.refl _ _,fun i u _ _ _=>apart_no (by decide) i u _⟩
   | 1,ho=>
    obtain rfl:=Oj9 ho;have e0:a.eval (.tmp 5)=P0 b0:=hin 0 5 (by kernel_rfl) (by kernel_rfl);exact Zx (.tmp 5) rfl ⟨b0,0,none⟩ _ e0 (Qb ((Qa d0).kept hk (by simp)) 0 _ rfl) ⟨_,rfl,rfl,Kept.refl _ _,fun i u _ _ _=>apart_no (by decide) i u _⟩
   | 2,ho=>
    obtain rfl:=Oj9 ho;exact Qw QC (.tmp 1) rfl b0 0 ((hout 1 (by kernel_rfl)).trans rfl) (Qf j) rfl ((Qa d0).kept hk (by simp)).range ⟨_,rfl,rfl,Kept.refl _ _,fun i u _ _ _=>apart_no (by decide) i u _⟩
   | 3,ho=>
    obtain rfl:=Oj9 ho;have e0:a.eval (.tmp 7)=Qd (Qf j):=hin 2 7 (by kernel_rfl) (by kernel_rfl);refine Qq 158 _ _ rfl #[Qd (Qf j)] (by simp [e0]) (cf26 _ _) ((logSize26 j hm w2).mono ?_);rintro e w3 ⟨rfl,hk3⟩;exact⟨_,rfl,_,rfl,rfl,hk3,fun i u _ _ _=>apart_no (by decide) i u _⟩
   | 4,ho=>
    obtain rfl:=Oj9 ho;have e0:a.eval (.tmp 6)= .int .i64 j.n:=hin 1 6 (by kernel_rfl) (by kernel_rfl);have e1:a.eval (.tmp 8)= .int .i64 (1+2*j.l):=hin 3 8 (by kernel_rfl) (by kernel_rfl);exact o_mul3 (.tmp 6) (.tmp 8) rfl _ _ (by rw [Qa hLd];omega) e0 e1 ⟨_,rfl,rfl,Kept.refl _ _,fun i u _ _ _=>apart_no (by decide) i u _⟩
   | 5,ho=>
    obtain rfl:=Oj9 ho;exact o_field1 (.tmp 1) rfl b0 ((hout 1 (by kernel_rfl)).trans rfl) ⟨_,rfl,rfl,Kept.refl _ _,fun i u _ _ _=>apart_no (by decide) i u _⟩
   | 6,ho=>
    obtain rfl:=Oj9 ho;have e0:a.eval (.tmp 10)= .pointer (some ⟨b0,1,none⟩):=hin 5 10 (by kernel_rfl) (by kernel_rfl);exact Zx (.tmp 10) rfl ⟨b0,1,none⟩ _ e0 (Qb ((Qa d0).kept hk (by simp)) 1 _ rfl) ⟨_,rfl,rfl,Kept.refl _ _,fun i u _ _ _=>apart_no (by decide) i u _⟩
   | 7,ho=>
    obtain rfl:=Oj9 ho;have e0:a.eval (.tmp 11)= .int .i64 j.p:=hin 6 11 (by kernel_rfl) (by kernel_rfl);exact o_mul3 (.tmp 11) (.const (.int .i64 2)) rfl _ _ (by omega) e0 rfl ⟨_,rfl,rfl,Kept.refl _ _,fun i u _ _ _=>apart_no (by decide) i u _⟩
   | 8,ho=>
    obtain rfl:=Oj9 ho;have e0:a.eval (.tmp 9)= .int .i64 j.L:=hin 4 9 (by kernel_rfl) (by kernel_rfl);have e1:a.eval (.tmp 12)= .int .i64 (j.p*2):=hin 7 12 (by kernel_rfl) (by kernel_rfl);exact wp_buildP _ rfl #[(0,.int .i64 1),(1,.int .i64 8),(2,.int .i64 j.L),(3,.int .i64 (j.p*2))] (by simp [e0,e1];exact⟨rfl,rfl⟩) (ZK 1 8 j.L (j.p*2)) (build58 _ _ _ _ _) ⟨_,rfl,rfl,Kept.refl _ _,fun i u _ _ _=>apart_no (by decide) i u _⟩
   | 9,ho=>
    obtain rfl:=Oj9 ho;exact wp_allocA (ZK 0 0 0 0) zero58 rfl ⟨_,rfl,⟨_,rfl,hk.size,Blk.new _ _ _⟩,(Kept.refl _ _).alloc _,fun i u _ _ _=>apart_no (by decide) i u _⟩
 · intro vs w3 hlen hF hE hk;obtain⟨x0,x1,x2,x3,x4,x5,x6,x7,x8,x9,rfl⟩:=vs10 hlen;obtain rfl:x0=_:=hF 0 _ rfl;obtain rfl:x1=_:=hF 1 _ rfl;obtain rfl:x2=_:=hF 2 _ rfl;obtain rfl:x3=_:=hF 3 _ rfl;obtain rfl:x4=_:=hF 4 _ rfl;obtain rfl:x5=_:=hF 5 _ rfl;obtain rfl:x6=_:=hF 6 _ rfl;obtain rfl:x7=_:=hF 7 _ rfl;obtain rfl:x8=_:=hF 8 _ rfl;obtain⟨q,rfl,hq,hB⟩:=hF 9 _ rfl;have dz3:=hide ((Qa dz).kept hk (by simp));have dk3:=hide ((Qa dk).trans hk);have hzq:=(Qa dz).lt;have dq:=hide hB;clear hF hE hk dz dk d0 hB;simp only [List.take_succ_cons,List.take_zero,Qz,Act.put,List.setIfInBounds_toArray,List.set_cons_succ,List.set_cons_zero];refine wpAny_all (rs:= [10]) (by kernel_rfl) (by simp) ?_;intro i hi;obtain rfl:i=10:=by simpa using hi
   refine wpOp_of rfl rfl (Zh row58 (.tmp 3) (.tmp 13) rfl rfl q 0 (ZK 1 8 j.L (j.p*2)) rfl rfl rfl (fourC_one _ _ _ _) ((Qa dq).there (by show 0+4≤4;omega)) ?_);refine wpAny_done (by kernel_rfl) ?_ _;have nz2:=Qa nz;have g4:Hid (Blk (w3.setCells q 0 (ZK 1 8 j.L (j.p*2))) q 190 (j.ends 1)):=(Qa dq).put rfl;have gz:Hid (Blk (w3.setCells q 0 (ZK 1 8 j.L (j.p*2))) zb 190 (ZK 0 0 0 0)):=(Qa dz3).other (by omega);have gk:Hid (Kept [] w (w3.setCells q 0 (ZK 1 8 j.L (j.p*2)))):=(Qa dk3).setCells _ _ (by omega);have hqz:Hid (q≠zb∧w.heap.size≤q):=⟨by omega,by omega⟩;generalize w3.setCells q 0 (ZK 1 8 j.L (j.p*2))=W5 at g4 gk gz⊢;clear dz3 dk3 dq;go_wp2_with fail
   go_loopw [4] (fun i wr=>∃k:Nat,1≤k∧k≤4∧i= .int .i64 k∧Hid (Blk wr q 190 (j.ends k))∧Hid (Blk wr zb 190 (ZK 0 0 0 0))∧Hid (Kept [] w wr)) (fun i _=>4-(intOf i).toNat)
   case atStart=>exact ⟨1,by omega,by omega,rfl,g4,gz,gk⟩
   case round=>
    clear g4 gz gk;obtain⟨k,hk1,hk4,rfl,g4,gz,gk⟩:=hrel;have nqz:=(Qa hqz).1;have nqw:=(Qa hqz).2;rcases (show k=1∨k=2∨k=3∨k=4 by omega) with rfl | rfl | rfl | rfl
    · have gg:Blk wr q 190 (ZK 1 8 j.L (j.p*2)):=Qa g4;obtain⟨c0,c1,c2,c3⟩:=four_cells gg;have fz:=gg.frozen 1;have GG:=hide gg;clear gg;go_wp2_with fail
      go_region
      go_wp2_with fail
      go_roundw
      case rel=>exact ⟨2,by omega,by omega,by go_num,(Qa GG).set _,(Qa gz).set_other (by omega) _,((Qa gk).setCell (p:=⟨q,1,none⟩) (by intro h;simp at h;omega) _).drew⟩
      case measure=>simp [intOf]
    · have gg:Blk wr q 190 (ZK 1 9 j.L (j.p*2)):=Qa g4;obtain⟨c0,c1,c2,c3⟩:=four_cells gg;have fz:=gg.frozen 2;have GG:=hide gg;clear gg;go_wp2_with fail
      go_region
      go_wp2_with fail
      go_roundw
      case rel=>exact ⟨3,by omega,by omega,by go_num,(Qa GG).set _,(Qa gz).set_other (by omega) _,((Qa gk).setCell (p:=⟨q,2,none⟩) (by intro h;simp at h;omega) _).drew⟩
      case measure=>simp [intOf]
    · have gg:Blk wr q 190 (ZK 1 9 (j.L+9) (j.p*2)):=Qa g4;obtain⟨c0,c1,c2,c3⟩:=four_cells gg;have fz:=gg.frozen 3;have GG:=hide gg;clear gg;go_wp2_with fail
      go_region
      go_wp2_with fail
      go_roundw
      case rel=>exact ⟨4,by omega,by omega,by go_num,(Qa GG).set _,(Qa gz).set_other (by omega) _,((Qa gk).setCell (p:=⟨q,3,none⟩) (by intro h;simp at h;omega) _).drew⟩
      case measure=>simp [intOf]
    · have gg:Blk wr q 190 (ZK 1 9 (j.L+9) (j.p*2+(j.L+9))):=Qa g4;have GG:=hide gg;clear gg g4;go_wp2_with (
       first
       |(refine Qg row58 rfl (.tmp 3) rfl q 0 rfl (ZK 1 9 (j.L+9) (j.p*2+(j.L+9))) rfl (Qa GG).range ?_)
       |(refine wpStoreA row58 rfl (.tmp 2) (.tmp 27) rfl zb 0 (ZK 1 9 (j.L+9) (j.p*2+(j.L+9))) rfl rfl rfl (fourC_one _ _ _ _) ((Qa gz).there (by show 0+4≤4;omega)) ?_))
      have h4:=(Qa gz).put (vs:=ZK 1 9 (j.L+9) (j.p*2+(j.L+9))) rfl;exact bodyPost_ret (res29 _ _ _ _ _ _ _ rfl h4) rfl ⟨rfl,(Qa gk).setCells _ _ (by omega)⟩
open Go.RowKit
theorem wpIndex58 {ops:Array Oper} {rest:List Oper} {op:Oper} {a:Act} {w:World} {Q:Exit→Act→World→Prop} (hgd:op.guard=none) (x y:Operand) (ho:op.op= .index 190 x y) (k:Nat) (p q r s:Int) (v:Value) (hv:(ZK p q r s)[k]?=some v)
  (hx:a.eval x=Qd (ZK p q r s)) (hy:a.eval y= .int .i64 k) (h:wpList Tryz.prog ops Q rest (a.put op.dst v) w):wpList Tryz.prog ops Q (op::rest) a w:=
 wpList_plain hgd fun K hK=>by
  have hk:k<4:=(List.getElem?_eq_some_iff.1 hv).1;unfold Oper.wp execOp;simp only [Qd,ZK] at hx hv;simp only [ho,hx,hy];rcases (show k=0∨k=1∨k=2∨k=3 by omega) with rfl | rfl | rfl | rfl
  all_goals
    simp at hv;subst hv;simp [go_sem];exact hK _ _ h
def Job.st (j:Job):Nat→Int
 | 0=>0
 | 1=>1
 | 2=>9
 | 3=>j.L+9
 | _=>j.p*2+(j.L+9)
theorem start_0 (j:Job) (w:World):Calls Tryz.prog 127 #[Qd (Qf j),.int .i64 0] w fun e w'=>e= .returned (.int .i64 0)∧Kept [] w w':=by
 go_enter Tryz.func127,Tryz.ntmps127
 go_wp2_with (refine Qp rfl (.tmp 0) rfl (Qf j) rfl ?_;intro W1 b1 e1 B1 K1;have KK:=hide K1;clear e1 B1 K1)
 go_ret
 exact⟨rfl,Qa KK⟩
theorem start_s (j:Job) (hm:j.may=true) (k:Nat) (hk:k<4) (w:World):Calls Tryz.prog 127 #[Qd (Qf j),.int .i64 (k+1:Nat)] w fun e w'=>e= .returned (.int .i64 (j.st (k+1)))∧Kept [] w w':=by
 have hv:(ZK 1 9 (j.L+9) (j.p*2+(j.L+9)))[k]?=some (.int .i64 (j.st (k+1))):=by
  rcases (show k=0∨k=1∨k=2∨k=3 by omega) with rfl | rfl | rfl | rfl <;> rfl
 have HV:=hide hv;clear hv;generalize hn:((k+1:Nat):Int)=n;have h0:n≠0:=by omega
 have h1:n-1=(k:Int):=by omega
 have hw:IntKind.i64.wrap (k:Int)=(k:Int):=by rw [IntKind.wrap_i64];omega
 clear hn;generalize j.st (k+1)=st at HV;go_enter Tryz.func127,Tryz.ntmps127
 go_wp2_with (
  first
  |(refine Qp rfl (.tmp 0) rfl (Qf j) rfl ?_;intro W1 b1 e1 B1 K1;have BB:=hide B1;have KK:=hide K1;clear e1 B1 K1)
  |(refine Qg QC rfl (.tmp 2) rfl b1 0 rfl (Qf j) rfl (Qa BB).range ?_)
  |(go_at_call 151;refine(ends29 j hm _).mono ?_;rintro e W2 ⟨rfl,K2⟩;have K3:=hide ((Qa KK).trans K2);clear K2 KK)
  |(refine wpIndex58 rfl (.tmp 8) (.tmp 10) rfl k _ _ _ _ _ (Qa HV) rfl rfl ?_))
 go_ret
 exact⟨rfl,Qa K3⟩
end Go.Proofs.YtcfflbafclmheaaGreatDoor.Ar
