/-
  Texts of the walks of member, shortened.
-/
import Derived.Test.YtcfflbafclmheaaGreatDoorDab
import Derived.Test.YtcfflbafclmheaaGreatDoorDaa
import Derived.Test.YtcfflbafclmheaaGreatDoorProg
import Derived.WalkMore
import Derived.Deep.RegionHeld3
import Derived.BigQuiet
import Derived.Deep.QuietTactic
set_option maxRecDepth 100000
set_option maxHeartbeats 100000000
set_option linter.unusedSimpArgs false
namespace Go.Proofs.YtcfflbafclmheaaGreatDoor
open Go.RowKit
theorem wpAny_inv {P:Program} {ops:Array Oper} {Q:Exit→Act→World→Prop} (I:Array Bool→Act→World→Prop) (hs:∀l a w,I l a w→∀j∈Region.ready .any ops l,wpOp P ops Q j (I (l.setIfInBounds j true)) a w)
  (he:∀l a w,I l a w→Region.ready .any ops l= []→Q .normal a w):∀(fuel:Nat) (l:Array Bool) (a:Act) (w:World),I l a w→(l.toList.filter (fun b=> !b)).length≤fuel→wpAny P .any ops Q fuel l a w:=by
 intro fuel
 induction fuel with
 | zero=>
  intro l a w hI hf;have hr:Region.ready .any ops l= []:=by
    apply List.eq_nil_iff_forall_not_mem.2;intro j hj;have:=unlisted_set (mem_ready.1 hj).1;omega
  exact⟨hr,he l a w hI hr⟩
 | succ fuel ih=>
  intro l a w hI hf;refine⟨he l a w hI,fun i hi=>wpOp_mono (fun a w h=>ih _ a w h ?_) (hs l a w hI i hi)⟩;have:=unlisted_set (mem_ready.1 hi).1;omega
theorem Zn {l:Array Bool} {j i:Nat} (hj:j<l.size) (d:Bool):(l.setIfInBounds j true).getD i d=if i=j then true else l.getD i d:=by
 simp only [Array.getD_eq_getD_getElem?,Array.getElem?_setIfInBounds];by_cases e:j=i
 · subst e;simp [hj]
 · rw [if_neg e,if_neg (fun h=>e h.symm)]
theorem putAll_sameW:∀(os:List Oper) (vs:List Value) (a:Act) (j:Nat) (o:Oper) (v:Value) (t:Nat),os[j]?=some o→vs[j]?=some v→o.dst=some t→t<a.tmps.size→
  (∀(i j:Nat) (p q:Oper) (t:Nat),os[i]?=some p→os[j]?=some q→i≠j→p.dst=some t→q.dst≠some t)→(Qz a os vs).tmps[t]?=some v:=by
 intro os
 induction os with
 | nil=>intro vs a j o v t h;simp at h
 | cons p os ih=>
  intro vs a j o v t ho hv ht hlt hap;cases vs with
  | nil=>simp at hv
  | cons u vs=>
    rw [Qz];cases j with
    | zero=>
     simp at ho hv;subst ho hv;rw [Zl _ _ _ _ ?_,ht,ZR _ _ _ hlt];intro q hq;obtain⟨k,hk⟩:=List.getElem?_of_mem hq;exact hap 0 (k+1) p q t rfl (by simpa using hk) (by omega) ht
    | succ j=>
     exact ih vs _ j o v t (by simpa using ho) (by simpa using hv) ht (by rw [put_size];exact hlt)
      (fun i k p' q' t' h1 h2 hne=>hap (i+1) (k+1) p' q' t' (by simpa using h1) (by simpa using h2) (by omega))
def okX (ops:Array Oper):Bool:=(List.range ops.size).all (fun j=>match ops[j]? with
 | none=>false
 | some o=>o.guard.isNone&&o.after.all (fun e=> !Region.binds .any e||decide (e.on<j))&&(List.range j).all (fun i=>match ops[i]? with
  | none=>false
  | some p=>p.dst.isNone||p.dst !=o.dst))
structure OkX (ops:Array Oper):Prop where
 guard:∀(j:Nat) (o:Oper),ops[j]?=some o→o.guard=none
 back:∀(j:Nat) (o:Oper),ops[j]?=some o→∀e∈o.after,Region.binds .any e=true→e.on<j
 apart:∀(i j:Nat) (p o:Oper) (t:Nat),i<j→ops[i]?=some p→ops[j]?=some o→p.dst=some t→o.dst≠some t
theorem okX_spec {ops:Array Oper} (h:okX ops=true):OkX ops:=by
 have hj:∀(j:Nat) (o:Oper),ops[j]?=some o→_:=fun j o ho=>(List.all_eq_true.1 h) j (List.mem_range.2 (Array.getElem?_eq_some_iff.1 ho).1);refine⟨?_,?_,?_⟩
 · intro j o ho;have:=hj j o ho;simp only [ho,Bool.and_eq_true] at this;exact Option.isNone_iff_eq_none.1 this.1.1
 · intro j o ho e he hb;have:=hj j o ho;simp only [ho,Bool.and_eq_true] at this;have:=(Array.all_eq_true_iff_forall_mem.1 this.1.2) e he;rw [hb] at this;simpa using this
 · intro i j p o t hij hp ho hpt hot;have:=hj j o ho;simp only [ho,Bool.and_eq_true] at this;have:=(List.all_eq_true.1 this.2) i (List.mem_range.2 hij);rw [hp] at this;simp [hpt,hot] at this
def told (us:List (Option Value)) (j:Nat) (v:Value):Prop:=∀u,us[j]?=some (some u)→v=u
theorem Qc {us:List (Option Value)} {j:Nat} {v:Value} (u:Value) (h:told us j v) (hj:us[j]?=some (some u)):v=u:=h u hj
theorem Qe {us:List (Option Value)} {j:Nat} {v:Value} (hj:us[j]?=some (some v)):told us j v:=fun u hu=>by rw [hj] at hu;cases hu;rfl
theorem QA {us:List (Option Value)} {j:Nat} {v:Value} (hj:us[j]?=some none):told us j v:=fun u hu=>by rw [hj] at hu;cases hu
theorem reach_listed {ops:Array Oper} {l:Array Bool} {j:Nat} (hc:∀(i:Nat) (p:Oper),ops[i]?=some p→l.getD i false=true→∀e∈p.after,Region.binds .any e=true→l.getD e.on false=true):
  ∀(f:Nat) (o:Oper),(∀e∈o.after,Region.binds .any e=true→l.getD e.on false=true)→reaches ops j f o=true→l.getD j false=true:=by
 intro f
 induction f with
 | zero=>intro o _ h;simp [reaches] at h
 | succ f ih=>
  intro o ho h;simp only [reaches,Array.any_eq_true'] at h;obtain⟨e,he,hb⟩:=h;simp only [Bool.and_eq_true,Bool.or_eq_true,beq_iff_eq] at hb;have hle:=ho e he hb.1;rcases hb.2 with rfl | h2
  · exact hle
  · cases hp:ops[e.on]? with
    | none=>rw [hp] at h2;simp at h2
    | some p=>
     rw [hp] at h2;exact ih p (hc e.on p hp hle) h2
theorem QL {ops:Array Oper} {Q:Exit→Act→World→Prop} {a0:Act} {w0:World} (n:Nat) (hn:ops.size=n) (hok:okX ops=true) (us:List (Option Value)) (hu:us.length=n)
   (hsl:ops.all (fun o=>match o.dst with | none=>true | some t=>decide (t<a0.tmps.size))=true) (J:Array Bool→(Nat→Value)→World→Prop) (hJ0:J (Array.replicate n false) (fun _=>undef) w0)
   (hop:∀(j:Nat) (o:Oper),j<n→ops[j]?=some o→∀a w l vs,l.size=n→l.getD j false=false→J l vs w→(∀t:Nat,ops.toList.all (fun p=>p.dst !=some t||p.after.any (fun e=>Region.binds .any e&&e.on == j))=true→a.eval (.tmp t)=a0.eval (.tmp t))→
     (∀(i t:Nat),o.after.any (fun e=>Region.binds .any e&&e.on == i)=true→ops[i]?.bind (·.dst)=some t→a.eval (.tmp t)=vs i∧told us i (vs i))→(∀i:Nat,o.after.any (fun e=>Region.binds .any e&&e.on == i)=true→l.getD i false=true)→(∀(i:Nat),(match ops[i]? with | none=>false | some p=>reaches ops j 8 p)=true→l.getD i false=false)→
     o.wp Tryz.prog a w (fun a' w'=>∃v,a'=a.put o.dst v∧told us j v∧J (l.setIfInBounds j true) (fun i=>if i=j then v else vs i) w') Q)
   (hQ:∀l vs w,(∀j,j<n→l.getD j false=true)→J l vs w→(∀j,j<n→told us j (vs j))→Q .normal (Qz a0 ops.toList ((List.range n).map vs)) w):
   wpAny Tryz.prog .any ops Q n (Array.replicate n false) a0 w0:=by
 subst hn;have K:=okX_spec hok;have hsl':∀o∈ops,∀t,o.dst=some t→t<a0.tmps.size:=by
   intro o ho t ht;have:=(Array.all_eq_true_iff_forall_mem.1 hsl) o ho;rw [ht] at this;simpa using this
 let I:Array Bool→Act→World→Prop:=fun l a w=>l.size=ops.size∧a.defers=a0.defers∧a.tmps.size=a0.tmps.size∧(∀t,(∀(i:Nat) (p:Oper),ops[i]?=some p→p.dst=some t→l.getD i false=false)→a.tmps[t]?=a0.tmps[t]?)∧(∀(i:Nat) (p:Oper),ops[i]?=some p→l.getD i false=true→∀e∈p.after,Region.binds .any e=true→l.getD e.on false=true)∧
   ∃vs:Nat→Value,(∀(j:Nat) (o:Oper) (t:Nat),ops[j]?=some o→o.dst=some t→l.getD j false=true→a.tmps[t]?=some (vs j))∧(∀j:Nat,l.getD j false=true→told us j (vs j))∧J l vs w
 have hrep:∀j,(Array.replicate ops.size false).getD j false=false:=by
   intro j;rw [Array.getD_eq_getD_getElem?,Array.getElem?_replicate];split <;> rfl
 refine wpAny_inv I ?_ ?_ ops.size _ a0 w0 ⟨by simp,rfl,rfl,fun _ _=>rfl,(fun i p _ hl=>by rw [hrep] at hl;cases hl),fun _=>undef,(fun j o t ho ht hl=>by rw [hrep] at hl;cases hl),(fun j hl=>by rw [hrep] at hl;cases hl),hJ0⟩ (by simp)
 · rintro l a w ⟨i1,i2,i3,i4,i8,vs,i5,i7,i6⟩ j hj;obtain⟨hjl,o,ho,hdeps⟩:=mem_ready.1 hj;have hjs:j<ops.size:=(Array.getElem?_eq_some_iff.1 ho).1;have hjf:l.getD j false=false:=by
     simp only [Array.getD_eq_getD_getElem?] at hjl⊢;rw [Array.getElem?_eq_getElem (by omega)] at hjl⊢;simpa using hjl
   have hdep:∀i:Nat,o.after.any (fun e=>Region.binds .any e&&e.on == i)=true→l.getD i false=true:=by
     intro i hi;obtain⟨k,hk,hb⟩:=Array.any_eq_true.1 hi;have he:=Array.getElem_mem hk;obtain⟨e,hee⟩:∃e,o.after[k]=e:=⟨_,rfl⟩;rw [hee] at hb he;simp only [Bool.and_eq_true,beq_iff_eq] at hb;have:=hdeps e he hb.1
     rwa [hb.2] at this
   have hin:∀(i s:Nat),o.after.any (fun e=>Region.binds .any e&&e.on == i)=true→ops[i]?.bind (·.dst)=some s→a.eval (.tmp s)=vs i∧told us i (vs i):=by
     intro i s hi hs;cases hq:ops[i]? with
     | none=>rw [hq] at hs;cases hs
     | some p=>
       rw [hq] at hs;have hv:=i5 i p s hq hs (hdep i hi);exact⟨by simp [Act.eval,Array.getD_eq_getD_getElem?,hv],i7 i (hdep i hi)⟩
   have next:∀v w',told us j v→J (l.setIfInBounds j true) (fun i=>if i=j then v else vs i) w'→I (l.setIfInBounds j true) (a.put o.dst v) w':=by
     intro v w' hv hJ;refine⟨by simp [i1],by rw [put_defers];exact i2,by rw [put_size];exact i3,?_,?_,_,?_,?_,hJ⟩
     · intro s hs;have hns:o.dst≠some s:=by
         intro e;have:=hs j o ho e;rw [Zn (by omega),if_pos rfl] at this;cases this
       rw [Zd _ _ _ _ hns];refine i4 s fun i p hp hd=> ?_;have:=hs i p hp hd;rw [Zn (by omega)] at this;split at this
       · cases this
       · exact this
     · intro i p hp hl e he hb;rw [Zn (by omega)] at hl⊢;by_cases hij:i=j
       · subst hij;rw [ho] at hp;cases hp;rw [hdeps e he hb];split <;> rfl
       · rw [if_neg hij] at hl;rw [i8 i p hp hl e he hb];split <;> rfl
     · intro i p s hp hs hl;rw [Zn (by omega)] at hl;by_cases hij:i=j
       · subst hij;rw [ho] at hp;cases hp;simp only [if_true];rw [hs];exact ZR _ _ _ (by rw [i3];exact hsl' o (Array.mem_of_getElem? ho) s hs)
       · rw [if_neg hij] at hl;simp only [if_neg hij];rw [Zd _ _ _ _ (by
          rcases Nat.lt_or_gt_of_ne hij with h | h
          · exact K.apart i j p o s h hp ho hs
          · exact fun e=>K.apart j i o p s h ho hp e hs)]
         exact i5 i p s hp hs hl
     · intro i hl;rw [Zn (by omega)] at hl;by_cases hij:i=j
       · subst hij;simp only [if_true];exact hv
       · rw [if_neg hij] at hl;simp only [if_neg hij];exact i7 i hl
   unfold wpOp;rw [ho];simp only;have hout:∀s:Nat,ops.toList.all (fun p=>p.dst !=some s||p.after.any (fun e=>Region.binds .any e&&e.on == j))=true→a.eval (.tmp s)=a0.eval (.tmp s):=by
     intro s hs;have:=i4 s (fun i p hp e=>by
       have h1:=(List.all_eq_true.1 hs) p (by simpa using Array.mem_of_getElem? hp);rw [e] at h1;simp only [bne_self_eq_false,Bool.false_or] at h1;obtain⟨q,hq,hb⟩:=Array.any_eq_true.1 h1;simp only [Bool.and_eq_true,beq_iff_eq] at hb;cases hli:l.getD i false with
       | false=>rfl
       | true=>
         have:=i8 i p hp hli _ (Array.getElem_mem hq) hb.1;rw [hb.2,hjf] at this;cases this)
     simp [Act.eval,Array.getD_eq_getD_getElem?,this]
   have hnot:∀(i:Nat),(match ops[i]? with | none=>false | some p=>reaches ops j 8 p)=true→l.getD i false=false:=by
     intro i hi;cases hp:ops[i]? with
     | none=>rw [hp] at hi;cases hi
     | some p=>
       rw [hp] at hi;cases hli:l.getD i false with
       | false=>rfl
       | true=>
         have:=reach_listed i8 8 p (i8 i p hp hli) hi;rw [hjf] at this;cases this
   rw [if_pos (by simp [Region.wanted,K.guard j o ho])];exact .inl (Oper.wp_mono (fun a' w' ⟨v,e,hv,hJ⟩=>by rw [e];exact next v w' hv hJ) (hop j o hjs ho a w l vs i1 hjf i6 hout hin hdep hnot))
 · rintro l a w ⟨i1,i2,i3,i4,i8,vs,i5,i7,i6⟩ hr;have hall:∀n j,j<n→j<ops.size→l.getD j false=true:=by
     intro n
     induction n with
     | zero=>intro j hj;omega
     | succ n ih=>
       intro j hj hjs;cases hlj:l.getD j false with
       | true=>rfl
       | false=>
         exfalso;have hmem:j∈Region.ready .any ops l:=by
          rw [mem_ready];refine⟨?_,ops[j],Array.getElem?_eq_getElem hjs,fun e he hb=> ?_⟩
          · simp only [Array.getD_eq_getD_getElem?] at hlj⊢;rw [Array.getElem?_eq_getElem (by omega)] at hlj⊢;simpa using hlj
          · have:=K.back j ops[j] (Array.getElem?_eq_getElem hjs) e he hb;exact ih e.on (by omega) (by omega)
         rw [hr] at hmem;cases hmem
   have hl:=fun j (hj:j<ops.size)=>hall (j+1) j (by omega) hj;have ha:a=Qz a0 ops.toList ((List.range ops.size).map vs):=by
     have hs:=putAll_size ops.toList ((List.range ops.size).map vs) a0;have hdst:∀(i j:Nat) (p q:Oper) (t:Nat),ops.toList[i]?=some p→ops.toList[j]?=some q→i≠j→p.dst=some t→q.dst≠some t:=by
       intro i j p q t hp hq hij;rw [Array.getElem?_toList] at hp hq;rcases Nat.lt_or_gt_of_ne hij with h | h
       · exact K.apart i j p q t h hp hq
       · exact fun e1 e2=>K.apart j i q p t h hq hp e2 e1
     have ht:a.tmps=(Qz a0 ops.toList ((List.range ops.size).map vs)).tmps:=by
       apply Array.ext_getElem?;intro t;by_cases hx:∃(j:Nat) (o:Oper),ops[j]?=some o∧o.dst=some t
       · obtain⟨j,o,ho,hd⟩:=hx;have hjs:j<ops.size:=(Array.getElem?_eq_some_iff.1 ho).1;have hv:=i5 j o t ho hd (hl j hjs);have hvv:((List.range ops.size).map vs)[j]?=some (vs j):=by simp [hjs]
         rw [hv,putAll_sameW ops.toList ((List.range ops.size).map vs) a0 j o (vs j) t (by rw [Array.getElem?_toList];exact ho) hvv hd (hsl' o (Array.mem_of_getElem? ho) t hd) hdst]
       · have hno:∀p∈ops.toList,p.dst≠some t:=by
          intro p hp e;obtain⟨j,hj⟩:=List.mem_iff_getElem?.1 hp;exact hx ⟨j,p,by rw [← Array.getElem?_toList];exact hj,e⟩
         rw [i4 t (fun i p hp e=>absurd e (hno p (by simpa using Array.mem_of_getElem? hp))),Zl ops.toList ((List.range ops.size).map vs) a0 t hno]
     cases a
     simp only at ht i2;cases hp:Qz a0 ops.toList ((List.range ops.size).map vs) with
     | mk tm df=>
       rw [hp] at ht hs;simp only at ht hs;rw [ht,i2,hs.2]
   rw [ha];exact hQ l vs w hl i6 fun j hj=>i7 j (hl j hj)
section
variable {l:Array Bool} {vs:Nat→Value} {w:World} {j p q:Nat} {v:Value}
end
open Go.RowKit
abbrev fnV (f:FuncId) (cs:Array Value):Value:= .func (.func f) #[] cs
abbrev Ent (f:FuncId):Prop:=∀(vs:Array Value) (w:World),(callFunc f vs).run Tryz.prog w= .ok (.enter f vs) w
def Rg (w:World) (b:Nat) (vs:List Value):Prop:=∀(k:Nat) (v:Value),vs[k]?=some v→w.cell? ⟨b,k,none⟩=some v
theorem Rg.kept {w W:World} {b:Nat} {vs:List Value} {X:List Nat} (h:Rg w b vs) (k:Kept X w W) (hb:b∉X):Rg W b vs:=fun i v hi=>k.cell (h i v hi) hb
theorem Rg.of {w:World} {b T:Nat} {vs:List Value} (h:Blk w b T vs):Rg w b vs:=fun k v hk=>Qb h k v hk
section
variable {ops:Array Oper} {rest:List Oper} {op o:Oper} {a:Act} {w:World} {K:Act→World→Prop} {Q:Exit→Act→World→Prop}
theorem wp_callC (f:FuncId) (t:Nat) (args:Array Operand) (ts:Array TypeId) (ho:o.op= .call { callee:= .value (.tmp t),args:=args,argTypes:=ts }) (cs:Array Value) (hf:a.eval (.tmp t)= .func (.func f) #[] cs)
  (vs:Array Value) (hv:args.map a.eval=vs) (hcf:(callFunc f (vs++cs)).run Tryz.prog w= .ok (.enter f (vs++cs)) w) (h:Calls Tryz.prog f (vs++cs) w fun e w'=>∃v,e= .returned v∧K (a.put o.dst v) w'):o.wp Tryz.prog a w K Q:=by
 subst hv;unfold Oper.wp execOp;simp only [ho,resolve,hf];simp [invoke,go_sem,hcf];refine h.mono ?_;rintro e w' ⟨v,rfl,hk⟩;exact hk
theorem wpCall0 (hgd:op.guard=none) (f:FuncId) (t:Nat) (ho:op.op= .call { callee:= .value (.tmp t),args:= #[],argTypes:= #[] }) (cs:Array Value) (hf:a.eval (.tmp t)=fnV f cs) (hcf:Ent f)
  (h:Calls Tryz.prog f cs w fun e w'=>∃v,e= .returned v∧wpList Tryz.prog ops Q rest (a.put op.dst v) w'):wpList Tryz.prog ops Q (op::rest) a w:=
 wpList_plain hgd fun _ hK=>wp_callC f t #[] #[] ho cs hf #[] (by simp) (hcf _ _) (by
  rw [Array.empty_append];refine h.mono ?_;rintro e w' ⟨v,rfl,hk⟩;exact⟨v,rfl,hK _ _ hk⟩)
theorem o_idx95 (x y:Operand) (ho:o.op= .indexAddr 95 x y) (g m c k:Nat) (hk:k<m) (hx:a.eval x= .slice (some ⟨g,0,none⟩) m c) (hy:a.eval y= .int .i64 k) (h:K (a.put o.dst (.pointer (some ⟨g,k,none⟩))) w):o.wp Tryz.prog a w K Q:=by
 unfold Oper.wp execOp;simp only [ho,hx,hy];simp [go_sem,hk,Addr.add_lit];exact h
theorem o_load92 (x:Operand) (ho:o.op= .load 92 x) (p:Addr) (v:Value) (hx:a.eval x= .pointer (some p)) (hc:w.cell? p=some v) (h:K (a.put o.dst v) w):o.wp Tryz.prog a w K Q:=by
 unfold Oper.wp execOp;simp only [ho,hx];simp [go_sem,hc];exact h
end
theorem told67 (b n c:Nat) (qs:List (FuncId×Array Value)) (w:World) (hn:qs.length=n) (hn9:n≤100) (I:Nat→World→Prop) (E:Int→World→Prop) (h0:I 0 w)
  (hB:∀k W,I k W→Rg W b (qs.map fun q=>fnV q.1 q.2))
  (hq:∀k f cs W,qs[k]?=some (f,cs)→I k W→Ent f∧Calls Tryz.prog f cs W fun e W'=>∃x,e= .returned (.int .i64 x)∧((x=0∧I (k+1) W')∨(x≠0∧E x W')))
  (hE:∀W,I n W→E 0 W):
  Calls Tryz.prog 67 #[.slice (some ⟨b,0,none⟩) n c] w fun e W'=>∃x,e= .returned (.int .i64 x)∧E x W':=by
 have H0:=hide h0;have HB:=hide hB;have HQ:=hide hq;have HE:=hide hE;have HN:=hide hn;have hnI:(n:Int)≤100:=by omega
 clear h0 hB hq hE hn;go_enter Tryz.func67,Tryz.ntmps67
 go_wp2_with fail
 go_loopw [8] (fun xk wr=>∃k:Nat,k≤n∧xk= .int .i64 k∧Hid (I k wr)) (fun i _=>n-(intOf i).toNat)
 case atStart=>exact ⟨0,Nat.zero_le _,rfl,H0⟩
 case round=>
  clear H0;obtain⟨k,hk,rfl,HI⟩:=hrel;by_cases hlt:k<n
  · have hd:decide ((k:Int)<(n:Int))=true:=by simpa using hlt
    obtain⟨⟨f,cs⟩,hfc⟩:∃q,qs[k]?=some q:=⟨_,List.getElem?_eq_getElem (by have:=Qa HN;omega)⟩;have HC:Hid (wr.cell? ⟨b,k,none⟩=some (fnV f cs)):=hide (Qa HB k _ (Qa HI) k _ (by rw [List.getElem?_map,hfc];rfl));obtain⟨hent0,hcall⟩:=Qa HQ k f cs _ hfc (Qa HI);have hent:=hide hent0;have HCL:=hide hcall;clear hfc hcall hent0;go_wp2_with (first |(refine wpList_plain rfl fun K hK=>o_idx95 (.tmp 6) (.tmp 8) rfl b n c k hlt rfl rfl (hK _ _ ?_);refine Stp.go ?_))
    constructor
    go_wp2_with (first |(refine wpList_plain rfl fun K hK=>o_load92 (.tmp 10) rfl _ _ rfl (Qa HC) (hK _ _ ?_);refine Stp.go ?_))
    constructor
    go_wp2_with (first |(refine wpCall0 rfl f 12 rfl cs rfl (Qa hent) ((Qa HCL).mono ?_);rintro e W2 ⟨x,rfl,hx⟩;refine⟨_,rfl,?_⟩;refine Stp.go ?_))
    constructor
    clear HCL HC HI;rcases hx with ⟨rfl,hI⟩ | ⟨hx,hEx⟩
    · have HI2:=hide hI;clear hI;go_wp2_with fail
      go_roundw
      case rel=>exact ⟨k+1,by omega,by simp,HI2⟩
      case measure=>simp [intOf];omega
    · have hdx:(x == 0)=false:=by simpa using hx
      have hEE:=hide hEx;clear hEx;go_wp2_with fail
      go_ret
      exact⟨x,rfl,Qa hEE⟩
  · have hd:decide ((k:Int)<(n:Int))=false:=by simpa using hlt
    have hkn:k=n:=by omega
    subst hkn;go_wp2_with fail
    go_ret
    exact⟨0,rfl,Qa HE _ (Qa HI)⟩
end Go.Proofs.YtcfflbafclmheaaGreatDoor
namespace Go.Proofs.YtcfflbafclmheaaGreatDoor.Dv
open Go.RowKit
structure Dev where
 S:List (List Int)
 N:Nat
 E:List Int
 done:Int
 set:Bool
 left:Int
 lost:Bool
def Sec (s:List Int):Prop:=s.length=64∧∀x∈s,0≤x∧x<256
structure Dev.Ok (D:Dev):Prop where
 s0:1≤D.S.length
 s1:D.S.length≤4096
 sec:∀s∈D.S,Sec s
 n0:1≤D.N
 n1:D.N≤8
 e8:D.E.length=8
 e0:∀e∈D.E,0≤e∧e≤2147483647
 l0:0≤D.left∧D.left≤9223372036854775807
def QH (D:Dev) (g cap:Nat):List Value:=
 [.slice (some ⟨g,0,none⟩) D.S.length cap,.int .i64 D.N]++D.E.map (Value.int .i64)++ [.int .i64 D.done,.bool D.set,.int .i64 D.left,.bool D.lost]
def Head (w:World) (b g cap:Nat) (D:Dev):Prop:=w.heap[b]?=some (.cells (QH D g cap).toArray 115 (0,0))
def Body (w:World) (g cap:Nat) (S:List (List Int)):Prop:=∃ex:List Value,w.heap[g]?=some (.cells (u8s S.flatten++ex).toArray 59 (0,0))∧S.length≤cap∧ex.length=(cap-S.length)*64∧cap≤maxLen
structure Dv (w:World) (b g:Nat) (D:Dev):Prop where
 ok:D.Ok
 ne:b≠g
 lay:∃cap,Head w b g cap D∧Body w g cap D.S
def Sz (w:World) (p:Value) (n:Nat):Prop:=
 (p= .pointer none∧n=0)∨∃b ao cap,p= .pointer (some ⟨b,0,none⟩)∧w.cell? ⟨b,0,none⟩=some (.slice ao n cap)
theorem devCells_len {D:Dev} (h:D.Ok) (g cap:Nat):(QH D g cap).length=14:=by
 simp [QH,h.e8]
theorem e_split {E:List Int} (h:E.length=8):∃e0 e1 e2 e3 e4 e5 e6 e7,E= [e0,e1,e2,e3,e4,e5,e6,e7]:=by
 match E,h with
 | [a,b,c,d,e,f,g,i],_=>exact ⟨a,b,c,d,e,f,g,i,rfl⟩
theorem Head.cells {w:World} {b g cap:Nat} {D:Dev} (h:Head w b g cap D) (hok:D.Ok):
   w.cell? ⟨b,0,none⟩=some (.slice (some ⟨g,0,none⟩) D.S.length cap)∧w.cell? ⟨b,1,none⟩=some (.int .i64 D.N)∧w.cell? ⟨b,10,none⟩=some (.int .i64 D.done)∧
   w.cell? ⟨b,11,none⟩=some (.bool D.set)∧w.cell? ⟨b,12,none⟩=some (.int .i64 D.left)∧w.cell? ⟨b,13,none⟩=some (.bool D.lost):=by
 obtain⟨e0,e1,e2,e3,e4,e5,e6,e7,hE⟩:=e_split hok.e8
 unfold Head at h
 refine⟨?_,?_,?_,?_,?_,?_⟩ <;> rw [cell_of_block h] <;> simp [QH,hE]
theorem Head.epoch {w:World} {b g cap:Nat} {D:Dev} (h:Head w b g cap D) (hok:D.Ok) (i:Nat) (hi:i<8):w.cell? ⟨b,2+i,none⟩=some (.int .i64 (D.E[i]'(by rw [hok.e8];exact hi))):=by
 unfold Head at h
 rw [cell_of_block h]
 simp only [QH,List.getElem?_toArray]
 rw [List.append_assoc,List.getElem?_append_right (by simp),List.getElem?_append_left (by simp [hok.e8];omega)]
 simp
theorem Head.frozen {w:World} {b g cap:Nat} {D:Dev} (h:Head w b g cap D) (i:Nat):w.frozen? ⟨b,i,none⟩=false:=QO h i
theorem Dv.sz {w:World} {b g:Nat} {D:Dev} (h:Dv w b g D):Sz w (.pointer (some ⟨b,0,none⟩)) D.S.length:=by
 obtain⟨cap,h1,_⟩:=h.lay
 exact .inr ⟨b,_,cap,rfl,(h1.cells h.ok).1⟩
theorem Dv.kept {w w':World} {b g:Nat} {D:Dev} {X:List Nat} (h:Dv w b g D) (hk:Kept X w w') (hb:b∉X) (hg:g∉X):Dv w' b g D:=by
 obtain⟨cap,h1,ex,h2,h3⟩:=h.lay
 exact⟨h.ok,h.ne,cap,hk.heap h1 hb,ex,hk.heap h2 hg,h3⟩
theorem Dv.lt {w:World} {b g:Nat} {D:Dev} (h:Dv w b g D):b<w.heap.size∧g<w.heap.size:=by
 obtain⟨cap,h1,ex,h2,h3⟩:=h.lay
 exact⟨lt_of_block h1,lt_of_block h2⟩
theorem Sz.kept {w w':World} {p:Value} {n:Nat} {X:List Nat} (h:Sz w p n) (hk:Kept X w w') (hb:∀b,p= .pointer (some ⟨b,0,none⟩)→b∉X):Sz w' p n:=by
 rcases h with h | ⟨b,ao,cap,rfl,h⟩
 · exact .inl h
 · exact .inr ⟨b,ao,cap,rfl,hk.cell h (hb b rfl)⟩
theorem flat_range {S:List (List Int)} (hs:∀s∈S,Sec s):∀(i:Nat) (h:i<S.length),∃pre post:List Int,S.flatten=pre++S[i]++post∧pre.length=i*64:=by
 induction S with
 | nil=>intro i h;simp at h
 | cons s S ih=>
   intro i h
   cases i with
   | zero=>exact ⟨[],S.flatten,by simp,by simp⟩
   | succ i=>
     obtain⟨pre,post,h1,h2⟩:=ih (fun t ht=>hs t (List.mem_cons_of_mem _ ht)) i (by simpa using h)
     have hl:=(hs s (List.mem_cons_self ..)).1
     exact⟨s++pre,post,by simp [h1],by simp [h2,hl];omega⟩
theorem flat_len {S:List (List Int)} (hs:∀s∈S,Sec s):S.flatten.length=S.length*64:=by
 induction S with
 | nil=>rfl
 | cons s S ih=>
   have hl:=(hs s (List.mem_cons_self ..)).1
   simp [hl,ih (fun t ht=>hs t (List.mem_cons_of_mem _ ht))];omega
theorem flat_set {S:List (List Int)} (hs:∀s∈S,Sec s):∀(i:Nat) (t:List Int) (pre mid post:List Int),i<S.length→S.flatten=pre++mid++post→pre.length=i*64→mid.length=64→(S.set i t).flatten=pre++t++post:=by
 induction S with
 | nil=>intro i t _ _ _ h;simp at h
 | cons s S ih=>
   intro i t pre mid post h h1 h2 h3
   have hl:=(hs s (List.mem_cons_self ..)).1
   cases i with
   | zero=>
     obtain rfl:pre= []:=List.eq_nil_of_length_eq_zero (by simpa using h2)
     simp only [List.flatten_cons,List.nil_append] at h1
     have:=List.append_inj h1 (by rw [hl,h3])
     simp [this.2]
   | succ i=>
     have hpre:pre=s++pre.drop 64:=by
       have:(s++S.flatten).take 64=(pre++mid++post).take 64:=by rw [← h1];simp
       rw [List.take_append_of_le_length (by omega),List.take_of_length_le (by omega),List.append_assoc,List.take_append_of_le_length (by omega)] at this
       conv=>lhs;rw [← List.take_append_drop 64 pre,← this]
     have h4:S.flatten=pre.drop 64++mid++post:=by
       have:s++S.flatten=s++(pre.drop 64++mid++post):=by
         have:s++S.flatten=pre++mid++post:=by rw [← h1];simp
         rw [this];conv=>lhs;rw [hpre]
         simp
       exact List.append_cancel_left this
     have:=ih (fun t ht=>hs t (List.mem_cons_of_mem _ ht)) i t (pre.drop 64) mid post (by simpa using h) h4 (by simp;omega) h3
     simp only [List.set_cons_succ,List.flatten_cons,this]
     conv=>rhs;rw [hpre]
     simp
theorem Body.range {w:World} {g cap:Nat} {S:List (List Int)} (h:Body w g cap S) (hs:∀s∈S,Sec s) (i:Nat) (hi:i<S.length):w.rangeAt g (i*64) (u8s S[i]):=by
 obtain⟨ex,h1,_⟩:=h
 obtain⟨pre,post,h2,h3⟩:=flat_range hs i hi
 intro j v hj
 rw [cell_of_block h1]
 have hjl:j<(u8s S[i]).length:=(List.getElem?_eq_some_iff.1 hj).1
 rw [h2,u8s_app,u8s_app,List.append_assoc,List.append_assoc,List.getElem?_toArray,List.getElem?_append_right (by rw [Qy];omega),List.getElem?_append_left (by rw [Qy];omega)]
 rw [Qy,h3]
 rw [← hj];congr 1;omega
theorem Body.there {w:World} {g cap:Nat} {S:List (List Int)} (h:Body w g cap S) (hs:∀s∈S,Sec s) (i:Nat) (hi:i<S.length):w.there g (i*64) 64:=by
 have hr:=h.range hs i hi
 have hl:=(hs S[i] (List.getElem_mem hi)).1
 obtain⟨ex,h1,_⟩:=h
 intro j hj
 exact⟨hr.isSome j (by rw [Qy];omega),QO h1 _⟩
theorem Body.put {w:World} {g cap:Nat} {S:List (List Int)} (h:Body w g cap S) (hs:∀s∈S,Sec s) (i:Nat) (hi:i<S.length) (t:List Int) (ht:t.length=64):Body (w.setCells g (i*64) (u8s t)) g cap (S.set i t):=by
 obtain⟨ex,h1,h4,h5,h6⟩:=h
 obtain⟨pre,post,h2,h3⟩:=flat_range hs i hi
 have hl:=(hs S[i] (List.getElem_mem hi)).1
 refine⟨ex,?_,by simpa using h4,by simpa using h5,h6⟩
 have hf:=flat_set hs i t pre S[i] post hi h2 h3 hl
 rw [hf]
 rw [h2] at h1
 have:=heap_sets (b:=g) (t:=59) (p:=(0,0)) (u8s t) w (i*64) (u8s pre) (u8s S[i]) (u8s post++ex) (by rw [h1];simp [u8s_app]) (by rw [Qy,h3]) (by rw [Qy,Qy,hl,ht])
 rw [this];simp [u8s_app]
open Go.RowKit
theorem QB {a b:Bool} (h:a=b):Ending.returned (.bool a)= .returned (.bool b):=by rw [h]
theorem ret_int {k:IntKind} {a b:Int} (h:a=b):Ending.returned (.int k a)= .returned (.int k b):=by rw [h]
theorem from29 (a x b:Int) (w:World):Calls Tryz.prog 62 #[.int .i64 a,.int .i64 x,.int .i64 b] w fun e w'=>e= .returned (.bool (decide (a≤x∧x≤b)))∧w'=w:=by
 by_cases h1:a≤x
 · go_enter Tryz.func62,Tryz.ntmps62
   go_wp2
   go_ret
   exact⟨QB (by simp [h1]),rfl⟩
 · go_enter Tryz.func62,Tryz.ntmps62
   go_wp2
   go_ret
   exact⟨QB (by simp;omega),rfl⟩
theorem from47 (a x b:Int) (w:World):Calls Tryz.prog 61 #[.int .i64 a,.int .i64 x,.int .i64 b] w fun e w'=>e= .returned (.bool (decide (a≤x∧x≤b)))∧w'=w:=by
 by_cases h1:a≤x
 · go_enter Tryz.func61,Tryz.ntmps61
   go_wp2
   go_ret
   exact⟨QB (by simp [h1]),rfl⟩
 · go_enter Tryz.func61,Tryz.ntmps61
   go_wp2
   go_ret
   exact⟨QB (by simp;omega),rfl⟩
theorem size31 (p:Value) (n:Nat) (w:World) (h:Sz w p n):Calls Tryz.prog 105 #[p] w fun e w'=>e= .returned (.int .i64 n)∧w'=w:=by
 rcases h with ⟨rfl,rfl⟩ | ⟨b,ao,cap,rfl,hc⟩
 · go_enter Tryz.func105,Tryz.ntmps105
   go_wp2
   go_ret
   exact⟨rfl,rfl⟩
 · go_enter Tryz.func105,Tryz.ntmps105
   go_wp2
   go_ret
   exact⟨rfl,rfl⟩
theorem none48 (p:Value) (n:Nat) (w:World) (h:Sz w p n) (r:Bool) (hr:(n == 0)=r):Calls Tryz.prog 54 #[p] w fun e w'=>e= .returned (.bool r)∧w'=w:=by
 go_enter Tryz.func54,Tryz.ntmps54
 go_wp2_with (go_at_call 105;refine(size31 _ _ _ h).mono ?_;rintro e w' ⟨rfl,rfl⟩)
 go_ret
 refine⟨QB ?_,rfl⟩;rw [← hr,Bool.eq_iff_iff];simp
theorem none_yes (p:Value) (w:World) (h:Sz w p 0):Calls Tryz.prog 54 #[p] w fun e w'=>e= .returned (.bool true)∧w'=w:=none48 p 0 w h true rfl
theorem none_no (b g:Nat) (D:Dev) (w:World) (h:Dv w b g D):Calls Tryz.prog 54 #[.pointer (some ⟨b,0,none⟩)] w fun e w'=>e= .returned (.bool false)∧w'=w:=
 none48 _ _ w h.sz false (by have:=h.ok.s0;simp;intro e;simp [e] at this)
theorem nodes_no (p:Value) (w:World) (h:Sz w p 0):Calls Tryz.prog 108 #[p] w fun e w'=>e= .returned (.int .i64 0)∧w'=w:=by
 go_enter Tryz.func108,Tryz.ntmps108
 go_wp2_with (go_at_call 54;refine(none_yes _ _ h).mono ?_;rintro e w' ⟨rfl,rfl⟩)
 go_ret
 exact⟨rfl,rfl⟩
theorem nodes32 (b g:Nat) (D:Dev) (w:World) (h:Dv w b g D):Calls Tryz.prog 108 #[.pointer (some ⟨b,0,none⟩)] w fun e w'=>e= .returned (.int .i64 D.N)∧w'=w:=by
 obtain⟨cap,hh,_⟩:=h.lay;obtain⟨_,h1,_⟩:=hh.cells h.ok;go_enter Tryz.func108,Tryz.ntmps108
 go_wp2_with (go_at_call 54;refine(none_no _ _ _ _ h).mono ?_;rintro e w' ⟨rfl,rfl⟩)
 go_ret
 exact⟨rfl,rfl⟩
def hasN (N:Nat) (x:Int):Bool:=decide (0≤x∧x<N)
theorem ZC {N:Nat} {x:Int} (h:hasN N x=true):0≤x∧x<N:=by simpa [hasN] using h
def Nd (w:World) (p:Value) (N:Nat):Prop:=(Sz w p 0∧N=0)∨∃b g D,p= .pointer (some ⟨b,0,none⟩)∧Dv w b g D∧D.N=N
theorem nodes_any (p:Value) (N:Nat) (w:World) (h:Nd w p N):Calls Tryz.prog 108 #[p] w fun e w'=>e= .returned (.int .i64 N)∧w'=w:=by
 rcases h with ⟨h,rfl⟩ | ⟨b,g,D,rfl,h,rfl⟩
 · exact nodes_no p w h
 · exact nodes32 b g D w h
theorem ZM (p:Value) (N:Nat) (x:Int) (w:World) (h:Nd w p N):Calls Tryz.prog 56 #[p,.int .i64 x] w fun e w'=>e= .returned (.bool (hasN N x))∧w'=w:=by
 by_cases h1:0≤x
 · go_enter Tryz.func56,Tryz.ntmps56
   go_wp2_with (go_at_call 108;refine(nodes_any _ _ _ h).mono ?_;rintro e w' ⟨rfl,rfl⟩)
   go_ret
   exact⟨QB (by simp [hasN,h1]),rfl⟩
 · go_enter Tryz.func56,Tryz.ntmps56
   go_wp2_with fail
   go_ret
   exact⟨QB (by simp [hasN];omega),rfl⟩
def hasS (n:Nat) (first many:Int):Bool:=decide (0≤first∧many≤n-first)
theorem hasSectors53 (p:Value) (n:Nat) (first many:Int) (w:World) (h:Sz w p n) (hn:n≤4096) (hf: -9223372036854775808≤first∧first≤9223372036854775807):
   Calls Tryz.prog 129 #[p,.int .i64 first,.int .i64 many] w fun e w'=>e= .returned (.bool (hasS n first many))∧w'=w:=by
 by_cases h1:0≤first
 · go_enter Tryz.func129,Tryz.ntmps129
   go_wp2_with (go_at_call 105;refine(size31 _ _ _ h).mono ?_;rintro e w' ⟨rfl,rfl⟩)
   go_ret
   exact⟨QB (by simp [hasS,h1]),rfl⟩
 · go_enter Tryz.func129,Tryz.ntmps129
   go_wp2_with fail
   go_ret
   exact⟨QB (by simp [hasS];omega),rfl⟩
def Dev.ep (D:Dev) (x:Int):Int:=D.E.getD x.toNat 0
theorem ep_cell {w:World} {b g:Nat} {D:Dev} (h:Dv w b g D) (k:Nat) (hk:k<D.N):w.cell? ⟨b,2+k,none⟩=some (.int .i64 (D.ep k)):=by
 obtain⟨cap,hh,_⟩:=h.lay;have h1:=h.ok.n1;rw [hh.epoch h.ok k (by omega)];simp [Dev.ep,List.getD,h.ok.e8,show k<8 by omega]
theorem ep_le {D:Dev} (h:D.Ok) (k:Nat) (hk:k<D.N):0≤D.ep k∧D.ep k≤2147483647:=by
 have h1:=h.n1;have hl:k<D.E.length:=by rw [h.e8];omega
 have:D.ep k=D.E[k]:=by simp [Dev.ep,List.getD,hl]
 rw [this];exact h.e0 _ (List.getElem_mem hl)
theorem Dv.nd {w:World} {b g:Nat} {D:Dev} (h:Dv w b g D):Nd w (.pointer (some ⟨b,0,none⟩)) D.N:= .inr ⟨b,g,D,rfl,h,rfl⟩
theorem epoch_nil (p:Value) (x:Int) (w:World) (h:Sz w p 0):Calls Tryz.prog 21 #[p,.int .i64 x] w fun e w'=>e= .returned (.tuple #[.int .i64 0,.int .i64 1])∧w'=w:=by
 go_enter Tryz.func21,Tryz.ntmps21
 go_wp2_with (go_at_call 54;refine(none_yes _ _ h).mono ?_;rintro e w' ⟨rfl,rfl⟩)
 go_ret2
 exact⟨rfl,rfl⟩
def Dev.epoch (D:Dev) (x:Int):Int×Int:=if hasN D.N x then (D.ep x,0) else (0,2)
theorem epoch19 (b g:Nat) (D:Dev) (x:Int) (w:World) (h:Dv w b g D):Calls Tryz.prog 21 #[.pointer (some ⟨b,0,none⟩),.int .i64 x] w fun e w'=>e= .returned (.tuple #[.int .i64 (D.epoch x).1,.int .i64 (D.epoch x).2])∧w'=w:=by
 cases hN:hasN D.N x with
 | true=>
  obtain⟨h0,h1⟩:=ZC hN;obtain⟨k,rfl⟩:=Int.eq_ofNat_of_zero_le h0;have hc:=ep_cell h k (by omega);have h8:(k:Int)<8:=by have:=h.ok.n1;omega
  have hE:D.epoch k=(D.ep k,0):=by simp [Dev.epoch,hN]
  rw [hE];clear hE h1;go_enter Tryz.func21,Tryz.ntmps21
  go_wp2_with (first |(go_at_call 54;refine(none_no _ _ _ _ h).mono ?_;rintro e w' ⟨rfl,rfl⟩) |(go_at_call 56;refine(ZM _ _ _ _ h.nd).mono ?_;rintro e w' ⟨rfl,rfl⟩))
  go_ret2
  exact⟨rfl,rfl⟩
 | false=>
  have hE:D.epoch x=(0,2):=by simp [Dev.epoch,hN]
  rw [hE];clear hE;go_enter Tryz.func21,Tryz.ntmps21
  go_wp2_with (first |(go_at_call 54;refine(none_no _ _ _ _ h).mono ?_;rintro e w' ⟨rfl,rfl⟩) |(go_at_call 56;refine(ZM _ _ _ _ h.nd).mono ?_;rintro e w' ⟨rfl,rfl⟩))
  go_ret2
  exact⟨rfl,rfl⟩
def Dev.fenced (D:Dev) (x ep:Int):Bool:=hasN D.N x&&decide (ep<D.ep x)
theorem fenced_nil (p:Value) (x ep:Int) (w:World) (h:Sz w p 0):Calls Tryz.prog 20 #[p,.int .i64 x,.int .i64 ep] w fun e w'=>e= .returned (.bool false)∧w'=w:=by
 have hN:hasN 0 x=false:=by simp [hasN]
 go_enter Tryz.func20,Tryz.ntmps20
 go_wp2_with (first |(go_at_call 56;refine(ZM _ _ _ _ (.inl ⟨h,rfl⟩)).mono ?_;rintro e w' ⟨rfl,rfl⟩))
 go_ret
 exact⟨rfl,rfl⟩
theorem fenced37 (b g:Nat) (D:Dev) (x ep:Int) (w:World) (h:Dv w b g D):Calls Tryz.prog 20 #[.pointer (some ⟨b,0,none⟩),.int .i64 x,.int .i64 ep] w fun e w'=>e= .returned (.bool (D.fenced x ep))∧w'=w:=by
 cases hN:hasN D.N x with
 | true=>
  obtain⟨h0,h1⟩:=ZC hN;obtain⟨k,rfl⟩:=Int.eq_ofNat_of_zero_le h0;have hc:=ep_cell h k (by omega);have h8:(k:Int)<8:=by have:=h.ok.n1;omega
  have hE:Hid (D.fenced k ep=decide (ep<D.ep k)):=by simp [Dev.fenced,hN,Hid]
  clear h1;go_enter Tryz.func20,Tryz.ntmps20
  go_wp2_with (first |(go_at_call 56;refine(ZM _ _ _ _ h.nd).mono ?_;rintro e w' ⟨rfl,rfl⟩))
  go_ret
  exact⟨QB hE.out.symm,rfl⟩
 | false=>
  have hE:Hid (D.fenced x ep=false):=by simp [Dev.fenced,hN,Hid]
  go_enter Tryz.func20,Tryz.ntmps20
  go_wp2_with (first |(go_at_call 56;refine(ZM _ _ _ _ h.nd).mono ?_;rintro e w' ⟨rfl,rfl⟩))
  go_ret
  exact⟨QB hE.out.symm,rfl⟩
def Dev.ref (D:Dev) (x ep:Int) (may:Bool):Int:=if may=true∧hasN D.N x=true∧0≤ep∧ep≤D.ep x then (if ep<D.ep x then 8 else 0) else 2
theorem refusal52 (b g:Nat) (D:Dev) (x ep:Int) (may:Bool) (w:World) (h:Dv w b g D):Calls Tryz.prog 128 #[.pointer (some ⟨b,0,none⟩),.int .i64 x,.int .i64 ep,.bool may] w fun e w'=>e= .returned (.int .i64 (D.ref x ep may))∧w'=w:=by
 cases may with
 | false=>
  have hE:Hid (D.ref x ep false=2):=by simp [Dev.ref,Hid]
  go_enter Tryz.func128,Tryz.ntmps128
  go_wp2_with (first |(go_at_call 54;refine(none_no _ _ _ _ h).mono ?_;rintro e w' ⟨rfl,rfl⟩) |(go_at_call 56;refine(ZM _ _ _ _ h.nd).mono ?_;rintro e w' ⟨rfl,rfl⟩))
  go_ret
  exact⟨ret_int hE.out.symm,rfl⟩
 | true=>
  cases hN:hasN D.N x with
  | false=>
   have hE:Hid (D.ref x ep true=2):=by simp [Dev.ref,Hid,hN]
   go_enter Tryz.func128,Tryz.ntmps128
   go_wp2_with (first |(go_at_call 54;refine(none_no _ _ _ _ h).mono ?_;rintro e w' ⟨rfl,rfl⟩) |(go_at_call 56;refine(ZM _ _ _ _ h.nd).mono ?_;rintro e w' ⟨rfl,rfl⟩))
   go_ret
   exact⟨ret_int hE.out.symm,rfl⟩
  | true=>
   obtain⟨h0,h1⟩:=ZC hN;obtain⟨k,rfl⟩:=Int.eq_ofNat_of_zero_le h0;have hc:=ep_cell h k (by omega);have h8:(k:Int)<8:=by have:=h.ok.n1;omega
   clear h1;by_cases hb:0≤ep∧ep≤D.ep k
   · have hd:decide (0≤ep∧ep≤D.ep k)=true:=by simpa using hb
     cases hF:D.fenced k ep with
     | true=>
      have hE:Hid (D.ref k ep true=8):=by simp [Dev.fenced,hN] at hF;simp [Dev.ref,Hid,hN,hb,hF]
      go_enter Tryz.func128,Tryz.ntmps128
      go_wp2_with (first |(go_at_call 54;refine(none_no _ _ _ _ h).mono ?_;rintro e w' ⟨rfl,rfl⟩) |(go_at_call 56;refine(ZM _ _ _ _ h.nd).mono ?_;rintro e w' ⟨rfl,rfl⟩) |(go_at_call 61;refine(from47 _ _ _ _).mono ?_;rintro e w' ⟨rfl,rfl⟩) |(go_at_call 20;refine(fenced37 _ _ _ _ _ _ h).mono ?_;rintro e w' ⟨rfl,rfl⟩))
      go_ret
      exact⟨ret_int hE.out.symm,rfl⟩
     | false=>
      have hE:Hid (D.ref k ep true=0):=by simp [Dev.fenced,hN] at hF;simp [Dev.ref,Hid,hN,hb];omega
      go_enter Tryz.func128,Tryz.ntmps128
      go_wp2_with (first |(go_at_call 54;refine(none_no _ _ _ _ h).mono ?_;rintro e w' ⟨rfl,rfl⟩) |(go_at_call 56;refine(ZM _ _ _ _ h.nd).mono ?_;rintro e w' ⟨rfl,rfl⟩) |(go_at_call 61;refine(from47 _ _ _ _).mono ?_;rintro e w' ⟨rfl,rfl⟩) |(go_at_call 20;refine(fenced37 _ _ _ _ _ _ h).mono ?_;rintro e w' ⟨rfl,rfl⟩))
      go_ret
      exact⟨ret_int hE.out.symm,rfl⟩
   · have hd:decide (0≤ep∧ep≤D.ep k)=false:=by simpa using hb
     have hE:Hid (D.ref k ep true=2):=by simp [Dev.ref,Hid,hN];omega
     clear hb;go_enter Tryz.func128,Tryz.ntmps128
     go_wp2_with (first |(go_at_call 54;refine(none_no _ _ _ _ h).mono ?_;rintro e w' ⟨rfl,rfl⟩) |(go_at_call 56;refine(ZM _ _ _ _ h.nd).mono ?_;rintro e w' ⟨rfl,rfl⟩) |(go_at_call 61;refine(from47 _ _ _ _).mono ?_;rintro e w' ⟨rfl,rfl⟩) |(go_at_call 20;refine(fenced37 _ _ _ _ _ _ h).mono ?_;rintro e w' ⟨rfl,rfl⟩))
     go_ret
     exact⟨ret_int hE.out.symm,rfl⟩
open Go.RowKit
theorem Dv.put {w:World} {b g i:Nat} {u:Value} {D D':Dev} (h:Dv w b g D) (hok:D'.Ok) (hS:D'.S=D.S) (hc:∀cap,QH D' g cap=(QH D g cap).set i u):Dv (w.setCell ⟨b,i,none⟩ u) b g D':=by
 obtain⟨cap,h1,ex,h2,h3⟩:=h.lay;refine⟨hok,h.ne,cap,?_,ex,?_,?_⟩
 · unfold Head at h1⊢;rw [heap_set h1,hc cap,List.setIfInBounds_toArray]
 · rw [hS];exact ZL h2 (Ne.symm h.ne)
 · rw [hS];exact h3
theorem Dv.drew {w:World} {b g:Nat} {D:Dev} (h:Dv w b g D):Dv w.drew b g D:=h.kept (X:= []) ((Kept.refl _ _).drew) (by simp) (by simp)
theorem Dv.alloc {w:World} {b g:Nat} {D:Dev} (h:Dv w b g D) (o:Obj):Dv (w.alloc o) b g D:=h.kept (X:= []) ((Kept.refl _ _).alloc o) (by simp) (by simp)
theorem cells_left (D:Dev) (g cap:Nat) (hE:D.E.length=8) (x:Int):QH { D with left:=x } g cap=(QH D g cap).set 12 (.int .i64 x):=by
 obtain⟨e0,e1,e2,e3,e4,e5,e6,e7,hE⟩:=e_split hE;simp [QH,hE]
theorem cells_done (D:Dev) (g cap:Nat) (hE:D.E.length=8) (x:Int):QH { D with done:=x } g cap=(QH D g cap).set 10 (.int .i64 x):=by
 obtain⟨e0,e1,e2,e3,e4,e5,e6,e7,hE⟩:=e_split hE;simp [QH,hE]
theorem cells_lost (D:Dev) (g cap:Nat) (hE:D.E.length=8) (x:Bool):QH { D with lost:=x } g cap=(QH D g cap).set 13 (.bool x):=by
 obtain⟨e0,e1,e2,e3,e4,e5,e6,e7,hE⟩:=e_split hE;simp [QH,hE]
theorem cells_epoch (D:Dev) (g cap:Nat) (hE:D.E.length=8) (k:Nat) (hk:k<8) (x:Int):QH { D with E:=D.E.set k x } g cap=(QH D g cap).set (2+k) (.int .i64 x):=by
 simp only [QH];rw [List.append_assoc,List.append_assoc,List.set_append_right _ _ (by simp),List.set_append_left _ _ (by simp;omega)];simp [List.map_set]
theorem Dev.Ok.left {D:Dev} (h:D.Ok) {x:Int} (hx:0≤x∧x≤9223372036854775807):({ D with left:=x } :Dev).Ok:=⟨h.s0,h.s1,h.sec,h.n0,h.n1,h.e8,h.e0,hx⟩
theorem Dev.Ok.done' {D:Dev} (h:D.Ok) (x:Int):({ D with done:=x } :Dev).Ok:=⟨h.s0,h.s1,h.sec,h.n0,h.n1,h.e8,h.e0,h.l0⟩
theorem Dev.Ok.lost' {D:Dev} (h:D.Ok) (x:Bool):({ D with lost:=x } :Dev).Ok:=⟨h.s0,h.s1,h.sec,h.n0,h.n1,h.e8,h.e0,h.l0⟩
theorem Dev.Ok.epoch {D:Dev} (h:D.Ok) (k:Nat) (x:Int) (hx:0≤x∧x≤2147483647):({ D with E:=D.E.set k x } :Dev).Ok:=
 ⟨h.s0,h.s1,h.sec,h.n0,h.n1,by simp [h.e8],fun e he=>(List.mem_or_eq_of_mem_set he).elim (h.e0 e) (fun e1=>e1▸hx),h.l0⟩
theorem Dev.Ok.sector {D:Dev} (h:D.Ok) (k:Nat) (s:List Int) (hs:Sec s):({ D with S:=D.S.set k s } :Dev).Ok:=
 ⟨by simpa using h.s0,by simpa using h.s1,fun e he=>(List.mem_or_eq_of_mem_set he).elim (h.sec e) (fun e1=>e1▸hs),h.n0,h.n1,h.e8,h.e0,h.l0⟩
set_option maxRecDepth 100000 in
theorem raise61 (pe pd pn b g:Nat) (D:Dev) (k:Nat) (ep:Int) (w:World) (h:Dv w b g D) (hk:k<D.N) (hx:0≤ep∧ep≤2147483647) (he:w.cell? ⟨pe,0,none⟩=some (.int .i64 ep)) (hd:w.cell? ⟨pd,0,none⟩=some (.pointer (some ⟨b,0,none⟩))) (hn:w.cell? ⟨pn,0,none⟩=some (.int .i64 k)) (n1:b≠pe) (n2:b≠pd) (n3:b≠pn):
  Calls Tryz.prog 116 #[.pointer (some ⟨pe,0,none⟩),.pointer (some ⟨pd,0,none⟩),.pointer (some ⟨pn,0,none⟩)] w fun e w'=>e= .returned (.tuple #[])∧Dv w' b g { D with E:=D.E.set k ep } ∧Kept [b] w w':=by
 have hc:=ep_cell h k hk;have h0:(0:Int)≤(k:Int):=by omega
 have h8:(k:Int)<8:=by have:=h.ok.n1;omega
 have hp:=h.put (h.ok.epoch k ep hx) rfl (fun cap=>cells_epoch D g cap h.ok.e8 k (by omega) ep);obtain⟨cap,hh,_⟩:=h.lay;have hf:=hh.frozen (2+k);go_enter Tryz.func116,Tryz.ntmps116
 go_wp2
 go_region_held3 (fun w'=>w'.cell? ⟨pe,0,none⟩=some (.int .i64 ep)∧w'.cell? ⟨pd,0,none⟩=some (.pointer (some ⟨b,0,none⟩))∧w'.cell? ⟨pn,0,none⟩=some (.int .i64 k)) (go_keep) (fail)
 all_goals go_wp2
 exact bodyPost_end (results_none rfl _ _ _) rfl ⟨rfl,hp.drew,((Kept.refl _ _).setCell (by simp) _).drew⟩
def Dev.step (D:Dev) (S':List (List Int)) (E':List Int):Dev×Bool:=
 if D.set=true∧D.left=0 then ({ D with lost:=true },false)
 else ({ D with S:=S',E:=E',left:=if D.set then D.left-1 else D.left,done:=wrap64 (D.done+1) },true)
theorem do54_61 (b g:Nat) (D:Dev) (S':List (List Int)) (E':List Int) (caps:Array Value) (w:World) (h:Dv w b g D)
  (T:∀D1 w1,D1.S=D.S→D1.E=D.E→D1.N=D.N→Dv w1 b g D1→Kept [b] w w1→Calls Tryz.prog 116 caps w1 fun e w2=>e= .returned (.tuple #[])∧Dv w2 b g { D1 with S:=S',E:=E' } ∧Kept [b,g] w1 w2):
  Calls Tryz.prog 115 #[.pointer (some ⟨b,0,none⟩),.func (.func 116) #[] caps] w fun e w'=>e= .returned (.bool (D.step S' E').2)∧Dv w' b g (D.step S' E').1∧Kept [b,g] w w':=by
 have hok:=h.ok;have hl0:=hok.l0;obtain⟨cap,hh,_⟩:=h.lay;obtain⟨_,_,hdn,hst,hlf,hlo⟩:=hh.cells h.ok;have hfd:=hh.frozen 10;have hfl:=hh.frozen 12;have hfo:=hh.frozen 13;have HT:=hide T;clear T;cases hs:D.set with
 | false=>
  have hR:D.step S' E'=({ D with S:=S',E:=E',done:=wrap64 (D.done+1) },true):=by simp [Dev.step,hs]
  rw [hR];rw [hs] at hst;clear hR;go_enter Tryz.func115,Tryz.ntmps115
  go_wp2_with fail
  refine(Qa HT D w rfl rfl rfl h (Kept.refl _ _)).mono ?_;rintro e w2 ⟨rfl,h2,k2⟩;obtain⟨cap2,hh2,_⟩:=h2.lay;obtain⟨_,_,hdn2,_⟩:=hh2.cells h2.ok;have hfd2:=hh2.frozen 10;have hp:=hide (h2.put (h2.ok.done' (wrap64 (D.done+1))) rfl (fun cap=>cells_done _ g cap h2.ok.e8 _));clear h hh hh2 hst hlf hlo hfd hfl hfo;go_wp2
  go_ret
  exact⟨rfl,Qa hp,k2.setCell (by simp) _⟩
 | true=>
  rw [hs] at hst;by_cases hz:D.left=0
  · have hR:D.step S' E'=({ D with lost:=true },false):=by simp [Dev.step,hs,hz]
    rw [hR];have hp:=h.put (hok.lost' true) rfl (fun cap=>cells_lost D g cap hok.e8 true);have HP:=hide hp;clear hR hp;go_enter Tryz.func115,Tryz.ntmps115
    go_wp2_with fail
    go_ret
    exact⟨rfl,Qa HP,(Kept.refl _ _).setCell (by simp) _⟩
  · have hR:D.step S' E'=({ D with S:=S',E:=E',left:=D.left-1,done:=wrap64 (D.done+1) },true):=by simp [Dev.step,hs,hz]
    rw [hR];clear hR;have hp1:=hide (h.put (hok.left (x:=D.left-1) (by omega)) rfl (fun cap=>cells_left D g cap hok.e8 _));have k1:=hide ((Kept.refl [b] w).setCell (p:=⟨b,12,none⟩) (by simp) (.int .i64 (D.left-1)));go_enter Tryz.func115,Tryz.ntmps115
    go_wp2_with fail
    refine(Qa HT { D with left:=D.left-1 } _ rfl rfl rfl (Qa hp1) (Qa k1)).mono ?_;rintro e w2 ⟨rfl,h2,k2⟩;obtain⟨cap2,hh2,_⟩:=h2.lay;obtain⟨_,_,hdn2,_⟩:=hh2.cells h2.ok;have hfd2:=hh2.frozen 10;have hp:=hide (h2.put (h2.ok.done' (wrap64 (D.done+1))) rfl (fun cap=>cells_done _ g cap h2.ok.e8 _));have hk:=hide (((Qa k1).mono (Y:= [b,g]) (by simp)).trans k2);clear h hh hh2 hst hlf hlo hfd hfl hfo;go_wp2
    go_ret
    exact⟨rfl,Qa hp,(Qa hk).setCell (by simp) _⟩
theorem do54_55 (b g:Nat) (D:Dev) (S':List (List Int)) (E':List Int) (caps:Array Value) (w:World) (h:Dv w b g D)
  (T:∀D1 w1,D1.S=D.S→D1.E=D.E→D1.N=D.N→Dv w1 b g D1→Kept [b] w w1→Calls Tryz.prog 130 caps w1 fun e w2=>e= .returned (.tuple #[])∧Dv w2 b g { D1 with S:=S',E:=E' } ∧Kept [b,g] w1 w2):
  Calls Tryz.prog 115 #[.pointer (some ⟨b,0,none⟩),.func (.func 130) #[] caps] w fun e w'=>e= .returned (.bool (D.step S' E').2)∧Dv w' b g (D.step S' E').1∧Kept [b,g] w w':=by
 have hok:=h.ok;have hl0:=hok.l0;obtain⟨cap,hh,_⟩:=h.lay;obtain⟨_,_,hdn,hst,hlf,hlo⟩:=hh.cells h.ok;have hfd:=hh.frozen 10;have hfl:=hh.frozen 12;have hfo:=hh.frozen 13;have HT:=hide T;clear T;cases hs:D.set with
 | false=>
  have hR:D.step S' E'=({ D with S:=S',E:=E',done:=wrap64 (D.done+1) },true):=by simp [Dev.step,hs]
  rw [hR];rw [hs] at hst;clear hR;go_enter Tryz.func115,Tryz.ntmps115
  go_wp2_with fail
  refine(Qa HT D w rfl rfl rfl h (Kept.refl _ _)).mono ?_;rintro e w2 ⟨rfl,h2,k2⟩;obtain⟨cap2,hh2,_⟩:=h2.lay;obtain⟨_,_,hdn2,_⟩:=hh2.cells h2.ok;have hfd2:=hh2.frozen 10;have hp:=hide (h2.put (h2.ok.done' (wrap64 (D.done+1))) rfl (fun cap=>cells_done _ g cap h2.ok.e8 _));clear h hh hh2 hst hlf hlo hfd hfl hfo;go_wp2
  go_ret
  exact⟨rfl,Qa hp,k2.setCell (by simp) _⟩
 | true=>
  rw [hs] at hst;by_cases hz:D.left=0
  · have hR:D.step S' E'=({ D with lost:=true },false):=by simp [Dev.step,hs,hz]
    rw [hR];have hp:=h.put (hok.lost' true) rfl (fun cap=>cells_lost D g cap hok.e8 true);have HP:=hide hp;clear hR hp;go_enter Tryz.func115,Tryz.ntmps115
    go_wp2_with fail
    go_ret
    exact⟨rfl,Qa HP,(Kept.refl _ _).setCell (by simp) _⟩
  · have hR:D.step S' E'=({ D with S:=S',E:=E',left:=D.left-1,done:=wrap64 (D.done+1) },true):=by simp [Dev.step,hs,hz]
    rw [hR];clear hR;have hp1:=hide (h.put (hok.left (x:=D.left-1) (by omega)) rfl (fun cap=>cells_left D g cap hok.e8 _));have k1:=hide ((Kept.refl [b] w).setCell (p:=⟨b,12,none⟩) (by simp) (.int .i64 (D.left-1)));go_enter Tryz.func115,Tryz.ntmps115
    go_wp2_with fail
    refine(Qa HT { D with left:=D.left-1 } _ rfl rfl rfl (Qa hp1) (Qa k1)).mono ?_;rintro e w2 ⟨rfl,h2,k2⟩;obtain⟨cap2,hh2,_⟩:=h2.lay;obtain⟨_,_,hdn2,_⟩:=hh2.cells h2.ok;have hfd2:=hh2.frozen 10;have hp:=hide (h2.put (h2.ok.done' (wrap64 (D.done+1))) rfl (fun cap=>cells_done _ g cap h2.ok.e8 _));have hk:=hide (((Qa k1).mono (Y:= [b,g]) (by simp)).trans k2);clear h hh hh2 hst hlf hlo hfd hfl hfo;go_wp2
    go_ret
    exact⟨rfl,Qa hp,(Qa hk).setCell (by simp) _⟩
theorem do54_57 (b g:Nat) (D:Dev) (S':List (List Int)) (E':List Int) (caps:Array Value) (w:World) (h:Dv w b g D)
  (T:∀D1 w1,D1.S=D.S→D1.E=D.E→D1.N=D.N→Dv w1 b g D1→Kept [b] w w1→Calls Tryz.prog 159 caps w1 fun e w2=>e= .returned (.tuple #[])∧Dv w2 b g { D1 with S:=S',E:=E' } ∧Kept [b,g] w1 w2):
  Calls Tryz.prog 115 #[.pointer (some ⟨b,0,none⟩),.func (.func 159) #[] caps] w fun e w'=>e= .returned (.bool (D.step S' E').2)∧Dv w' b g (D.step S' E').1∧Kept [b,g] w w':=by
 have hok:=h.ok;have hl0:=hok.l0;obtain⟨cap,hh,_⟩:=h.lay;obtain⟨_,_,hdn,hst,hlf,hlo⟩:=hh.cells h.ok;have hfd:=hh.frozen 10;have hfl:=hh.frozen 12;have hfo:=hh.frozen 13;have HT:=hide T;clear T;cases hs:D.set with
 | false=>
  have hR:D.step S' E'=({ D with S:=S',E:=E',done:=wrap64 (D.done+1) },true):=by simp [Dev.step,hs]
  rw [hR];rw [hs] at hst;clear hR;go_enter Tryz.func115,Tryz.ntmps115
  go_wp2_with fail
  refine(Qa HT D w rfl rfl rfl h (Kept.refl _ _)).mono ?_;rintro e w2 ⟨rfl,h2,k2⟩;obtain⟨cap2,hh2,_⟩:=h2.lay;obtain⟨_,_,hdn2,_⟩:=hh2.cells h2.ok;have hfd2:=hh2.frozen 10;have hp:=hide (h2.put (h2.ok.done' (wrap64 (D.done+1))) rfl (fun cap=>cells_done _ g cap h2.ok.e8 _));clear h hh hh2 hst hlf hlo hfd hfl hfo;go_wp2
  go_ret
  exact⟨rfl,Qa hp,k2.setCell (by simp) _⟩
 | true=>
  rw [hs] at hst;by_cases hz:D.left=0
  · have hR:D.step S' E'=({ D with lost:=true },false):=by simp [Dev.step,hs,hz]
    rw [hR];have hp:=h.put (hok.lost' true) rfl (fun cap=>cells_lost D g cap hok.e8 true);have HP:=hide hp;clear hR hp;go_enter Tryz.func115,Tryz.ntmps115
    go_wp2_with fail
    go_ret
    exact⟨rfl,Qa HP,(Kept.refl _ _).setCell (by simp) _⟩
  · have hR:D.step S' E'=({ D with S:=S',E:=E',left:=D.left-1,done:=wrap64 (D.done+1) },true):=by simp [Dev.step,hs,hz]
    rw [hR];clear hR;have hp1:=hide (h.put (hok.left (x:=D.left-1) (by omega)) rfl (fun cap=>cells_left D g cap hok.e8 _));have k1:=hide ((Kept.refl [b] w).setCell (p:=⟨b,12,none⟩) (by simp) (.int .i64 (D.left-1)));go_enter Tryz.func115,Tryz.ntmps115
    go_wp2_with fail
    refine(Qa HT { D with left:=D.left-1 } _ rfl rfl rfl (Qa hp1) (Qa k1)).mono ?_;rintro e w2 ⟨rfl,h2,k2⟩;obtain⟨cap2,hh2,_⟩:=h2.lay;obtain⟨_,_,hdn2,_⟩:=hh2.cells h2.ok;have hfd2:=hh2.frozen 10;have hp:=hide (h2.put (h2.ok.done' (wrap64 (D.done+1))) rfl (fun cap=>cells_done _ g cap h2.ok.e8 _));have hk:=hide (((Qa k1).mono (Y:= [b,g]) (by simp)).trans k2);clear h hh hh2 hst hlf hlo hfd hfl hfo;go_wp2
    go_ret
    exact⟨rfl,Qa hp,(Qa hk).setCell (by simp) _⟩
open Go.RowKit
theorem QX {w:World} {o:Obj} {n:Nat} (h:n=w.heap.size):(w.alloc o).heap[n]?=some o:=by subst h;exact heap_alloc_new w o
theorem box_at {w:World} {b:Nat} {v:Value} {t:TypeId} (h:w.heap[b]?=some (.cells #[v] t (0,0))):w.cell? ⟨b,0,none⟩=some v:=by rw [cell_of_block h];rfl
theorem raise56 (b g:Nat) (D:Dev) (k:Nat) (ep:Int) (w:World) (h:Dv w b g D) (hk:k<D.N) (hx:0≤ep∧ep≤2147483647):
   Calls Tryz.prog 57 #[.pointer (some ⟨b,0,none⟩),.int .i64 k,.int .i64 ep] w fun e w'=>e= .returned (.tuple #[])∧Dv w' b g (D.step D.S (D.E.set k ep)).1∧Kept [b,g] w w':=by
 have hlt:=h.lt;go_enter Tryz.func57,Tryz.ntmps57
 go_wp2_with fail
 refine(do54_61 b g D D.S (D.E.set k ep) _ _ (((h.alloc _).alloc _).alloc _) ?_).mono ?_
 · intro D1 w1 hS hE hN h1 k1;refine(raise61 (w.heap.size+1+1) w.heap.size (w.heap.size+1) b g D1 k ep w1 h1 (by omega) hx ?_ ?_ ?_ (by omega) (by omega) (by omega)).mono ?_
   · exact k1.cell (box_at (QX (by simp))) (by simp;omega)
   · exact k1.cell (box_at (heap_alloc_old (heap_alloc_old (QX rfl)))) (by simp;omega)
   · exact k1.cell (box_at (heap_alloc_old (QX (by simp)))) (by simp;omega)
   · rintro e w2 ⟨rfl,h2,k2⟩;refine⟨rfl,?_,k2.mono (by simp)⟩;rw [hE,← hS] at*;exact h2
 · rintro e w2 ⟨rfl,h2,k2⟩;have HK:=hide ((((((Kept.refl [b,g] w).alloc _).alloc _).alloc _).trans k2));have H2:=hide h2;clear h h2 k2;go_wp2
   exact bodyPost_end (results_none rfl _ _ _) rfl ⟨rfl,Qa H2,Qa HK⟩
def Dev.up (D:Dev) (x:Int):Int×Int×Dev:=
 if hasN D.N x then (if D.ep x=2147483647 then (0,5,D) else (D.ep x+1,0,(D.step D.S (D.E.set x.toNat (D.ep x+1))).1)) else (0,2,D)
theorem up27 (b g:Nat) (D:Dev) (x:Int) (w:World) (h:Dv w b g D):
  Calls Tryz.prog 22 #[.pointer (some ⟨b,0,none⟩),.int .i64 x] w fun e w'=>e= .returned (.tuple #[.int .i64 (D.up x).1,.int .i64 (D.up x).2.1])∧Dv w' b g (D.up x).2.2∧Kept [b,g] w w':=by
 cases hN:hasN D.N x with
 | false=>
  have hE:D.epoch x=(0,2):=by simp [Dev.epoch,hN]
  have hU:D.up x=(0,2,D):=by simp [Dev.up,hN]
  rw [hU];have hc:=epoch19 b g D x w h;rw [hE] at hc;have HC:=hide hc;clear hE hU hc;go_enter Tryz.func22,Tryz.ntmps22
  go_wp2_with (go_at_call 21;refine(Qa HC).mono ?_;rintro e w' ⟨rfl,rfl⟩)
  go_ret2
  exact⟨rfl,h,Kept.refl _ _⟩
 | true=>
  obtain⟨h0,h1⟩:=ZC hN;obtain⟨k,rfl⟩:=Int.eq_ofNat_of_zero_le h0;have hE:D.epoch k=(D.ep k,0):=by simp [Dev.epoch,hN]
  have hc:=epoch19 b g D k w h;rw [hE] at hc;have HC:=hide hc;have hle:=ep_le h.ok k (by omega);clear hE hc;by_cases hm:D.ep k=2147483647
  · have hU:D.up k=(0,5,D):=by simp [Dev.up,hN,hm]
    rw [hU];clear hU;go_enter Tryz.func22,Tryz.ntmps22
    go_wp2_with (go_at_call 21;refine(Qa HC).mono ?_;rintro e w' ⟨rfl,rfl⟩)
    go_ret2
    exact⟨rfl,h,Kept.refl _ _⟩
  · have hU:D.up k=(D.ep k+1,0,(D.step D.S (D.E.set k (D.ep k+1))).1):=by simp [Dev.up,hN,hm]
    rw [hU];have HR:=hide (raise56 b g D k (D.ep k+1) w h (by omega) (by omega));clear hU h1;go_enter Tryz.func22,Tryz.ntmps22
    go_wp2_with (first |(go_at_call 21;refine(Qa HC).mono ?_;rintro e w' ⟨rfl,rfl⟩) |(go_at_call 57;refine(Qa HR).mono ?_;rintro e w1 ⟨rfl,hd1,hk1⟩))
    go_ret2
    exact⟨rfl,hd1,hk1⟩
def Dev.fence (D:Dev) (x ep y ab:Int):Int×Dev:=
 if D.ref x ep (hasN D.N y&&decide (0≤ab∧ab≤2147483646))=0 then (0,if D.ep y≤ab then (D.step D.S (D.E.set y.toNat (ab+1))).1 else D) else (D.ref x ep (hasN D.N y&&decide (0≤ab∧ab≤2147483646)),D)
theorem ref_may {D:Dev} {x ep:Int} {may:Bool} (h:D.ref x ep may=0):may=true:=by
 cases may with
 | true=>rfl
 | false=>simp [Dev.ref] at h
theorem fence24 (b g:Nat) (D:Dev) (x ep y ab:Int) (w:World) (h:Dv w b g D):
   Calls Tryz.prog 86 #[.pointer (some ⟨b,0,none⟩),.int .i64 x,.int .i64 ep,.int .i64 y,.int .i64 ab] w fun e w'=>e= .returned (.int .i64 (D.fence x ep y ab).1)∧Dv w' b g (D.fence x ep y ab).2∧Kept [b,g] w w':=by
 have HN:=hide (ZM _ _ y w h.nd);have HF:=hide (from47 0 ab 2147483646 w);by_cases hz:D.ref x ep (hasN D.N y&&decide (0≤ab∧ab≤2147483646))=0
 · have hm:=ref_may hz;rw [Bool.and_eq_true] at hm;obtain⟨hn,ha⟩:=hm;have HC:=refusal52 b g D x ep true w h;rw [hn,ha,Bool.and_self] at hz;rw [hz] at HC;rw [hn] at HN;rw [ha] at HF;have HC:=hide HC;obtain⟨h0,h1⟩:=ZC hn;obtain⟨k,rfl⟩:=Int.eq_ofNat_of_zero_le h0;have hab:=of_decide_eq_true ha;have hc:=ep_cell h k (by omega);have h8:(k:Int)<8:=by have:=h.ok.n1;omega
   by_cases hle:D.ep k≤ab
   · have hU:D.fence x ep k ab=(0,(D.step D.S (D.E.set k (ab+1))).1):=by simp only [Dev.fence,hn,ha,Bool.and_self,hz,if_true,hle];rfl
     rw [hU];have HR:=hide (raise56 b g D k (ab+1) w h (by omega) (by omega));clear hU h1 hz;go_enter Tryz.func86,Tryz.ntmps86
     go_wp2_with (first |(go_at_call 56;refine(Qa HN).mono ?_;rintro e w' ⟨rfl,rfl⟩) |(go_at_call 61;refine(Qa HF).mono ?_;rintro e w' ⟨rfl,rfl⟩) |(go_at_call 128;refine(Qa HC).mono ?_;rintro e w' ⟨rfl,rfl⟩) |(go_at_call 57;refine(Qa HR).mono ?_;rintro e w1 ⟨rfl,hd1,hk1⟩))
     go_ret
     exact⟨rfl,hd1,hk1⟩
   · have hU:D.fence x ep k ab=(0,D):=by simp only [Dev.fence,hn,ha,Bool.and_self,hz,if_true,hle];rfl
     rw [hU];clear hU h1 hz;go_enter Tryz.func86,Tryz.ntmps86
     go_wp2_with (first |(go_at_call 56;refine(Qa HN).mono ?_;rintro e w' ⟨rfl,rfl⟩) |(go_at_call 61;refine(Qa HF).mono ?_;rintro e w' ⟨rfl,rfl⟩) |(go_at_call 128;refine(Qa HC).mono ?_;rintro e w' ⟨rfl,rfl⟩))
     go_ret
     exact⟨rfl,h,Kept.refl _ _⟩
 · have hU:D.fence x ep y ab=(D.ref x ep (hasN D.N y&&decide (0≤ab∧ab≤2147483646)),D):=by simp only [Dev.fence,hz,if_false]
   rw [hU];clear hU;cases hn:hasN D.N y with
   | false=>
     rw [hn] at hz;have HC:=hide (refusal52 b g D x ep false w h);rw [hn] at HN;simp only [Bool.false_and] at hz⊢;go_enter Tryz.func86,Tryz.ntmps86
     go_wp2_with (first |(go_at_call 56;refine(Qa HN).mono ?_;rintro e w' ⟨rfl,rfl⟩) |(go_at_call 61;refine(Qa HF).mono ?_;rintro e w' ⟨rfl,rfl⟩) |(go_at_call 128;refine(Qa HC).mono ?_;rintro e w' ⟨rfl,rfl⟩))
     go_ret
     exact⟨rfl,h,Kept.refl _ _⟩
   | true=>
     rw [hn] at hz HN;cases hab:decide (0≤ab∧ab≤2147483646) with
     | false=>
      rw [hab] at hz HF;have HC:=hide (refusal52 b g D x ep false w h);simp only [Bool.true_and] at hz⊢;go_enter Tryz.func86,Tryz.ntmps86
      go_wp2_with (first |(go_at_call 56;refine(Qa HN).mono ?_;rintro e w' ⟨rfl,rfl⟩) |(go_at_call 61;refine(Qa HF).mono ?_;rintro e w' ⟨rfl,rfl⟩) |(go_at_call 128;refine(Qa HC).mono ?_;rintro e w' ⟨rfl,rfl⟩))
      go_ret
      exact⟨rfl,h,Kept.refl _ _⟩
     | true=>
      rw [hab] at hz HF;have HC:=hide (refusal52 b g D x ep true w h);simp only [Bool.true_and] at hz⊢;go_enter Tryz.func86,Tryz.ntmps86
      go_wp2_with (first |(go_at_call 56;refine(Qa HN).mono ?_;rintro e w' ⟨rfl,rfl⟩) |(go_at_call 61;refine(Qa HF).mono ?_;rintro e w' ⟨rfl,rfl⟩) |(go_at_call 128;refine(Qa HC).mono ?_;rintro e w' ⟨rfl,rfl⟩))
      go_ret
      exact⟨rfl,h,Kept.refl _ _⟩
open Go.RowKit
def Dev.cut (D:Dev) (n:Int):Int×Dev:=if n<0 then (2,D) else if D.set then (9,D) else (0,{ D with set:=true,left:=n,lost:=false })
end Go.Proofs.YtcfflbafclmheaaGreatDoor.Dv
