/-
  Texts of the walks of member, shortened.
-/
import Derived.Test.YtcfflbafclmheaaGreatDoorDap
import Derived.Test.YtcfflbafclmheaaGreatDoorDah
import Derived.RangeFuncNested
import Derived.RangeFuncWrites
set_option maxRecDepth 100000
set_option maxHeartbeats 100000000
set_option linter.unusedSimpArgs false
namespace Go.Proofs.YtcfflbafclmheaaGreatDoor
open Go.Shelf
open Go.RowKit
open Le (Mm Qh Qo)
def mready (o:Option Dv.Dev) (j:Job) (n ep nu:Int):Bool:=decide ((mlease o j n).2=0)&&(decide ((mlease o j n).1.ep=ep)&&decide (nu≤(mlease o j n).1.re))
theorem isReady95 (p:Value) (o:Option Dv.Dev) (j:Job) (n ep nu:Int) (w:World) (h:Dq w p o):Calls Tryz.prog 95 #[p,Qd (Qf j),.int .i64 n,.int .i64 ep,.int .i64 nu] w fun e w'=>e= .returned (.bool (mready o j n ep nu))∧Kept [] w w':=by
 obtain⟨ao,rfl⟩:=h.ptr;have PL:∀W,Kept [] w W→Hid (Calls Tryz.prog 30 #[.pointer ao,Qd (Qf j),.int .i64 n] W fun e w'=>e= .returned (.tuple #[Qd (mlease o j n).1.C,.int .i64 (mlease o j n).2])∧Kept [] W w'):=fun W hW=>hide (lease30 (.pointer ao) o j n W (h.kept hW));unfold mready;obtain⟨⟨⟨lp,lb,lr⟩,c⟩,hl⟩:∃r,mlease o j n=r:=⟨_,rfl⟩;rw [hl] at PL⊢;simp only at PL⊢;clear h hl;have M:Hid (Mm [] w w []):=hide Mm.init;go_enter Tryz.func95,Tryz.ntmps95
 go_wp2_with (first |(refine Qp rfl (.tmp 1) rfl (Qf j) rfl ?_;intro W1 b1 e1 B1 K1;replace M:=hide ((Qa M).new e1 B1 K1);clear e1 B1 K1;refine Stp.go ?_))
 constructor
 go_wp2_with (first |(refine Qg Zv rfl (.tmp 6) rfl b1 0 rfl (Qf j) rfl ((Qa M).at 0 _ rfl).range ?_;refine Stp.go ?_))
 constructor
 go_wp2_with (first |(go_at_call 30;refine(Qa (PL _ (Qa M).kept)).mono ?_;rintro e W2 ⟨rfl,K2⟩;replace M:=hide ((Qa M).step K2);clear K2;refine Stp.go ?_))
 constructor
 go_wp2_with (first |(refine QM Le.QC (Le.le0.C) rfl Le.QT 11 rfl rfl rfl (.tmp 18) rfl rfl rfl (Le.Le.C ⟨lp,lb,lr⟩) rfl (Le.QV _) (by kernel_rfl) (by kernel_rfl) ?_;intro W3 b3 e3 B3 K3;replace M:=hide ((Qa M).new e3 B3 K3);clear e3 B3 K3;have q0:W3.cell? ⟨b3,0,none⟩=some (.int .i64 lp):=Qb ((Qa M).at 1 _ rfl) 0 _ rfl;have q2:W3.cell? ⟨b3,2,none⟩=some (.int .i64 lr):=Qb ((Qa M).at 1 _ rfl) 2 _ rfl;refine Stp.go ?_))
 constructor
 by_cases h0:c=0
 · have d0:(c == 0)=true:=by simpa using h0
   by_cases h1:lp=ep
   · have d1:(lp == ep)=true:=by simpa using h1
     have H0:=hide h0;have H1:=hide h1;clear h0 h1;go_wp2_with fail
     go_ret
     exact⟨QB (by simp [Qa H0,Qa H1]),(Qa M).kept⟩
   · have d1:(lp == ep)=false:=by simpa using h1
     have H0:=hide h0;clear h0;go_wp2_with fail
     go_ret
     exact⟨QB (by simp [h1]),(Qa M).kept⟩
 · have d0:(c == 0)=false:=by simpa using h0
   go_wp2_with fail
   go_ret
   exact⟨QB (by simp [h0]),(Qa M).kept⟩
theorem wpAnyIn_inv {F:Fence} {n:Nat} {P:Program} {ops:Array Oper} {Q:Exit→Act→World→Prop} (I:Array Bool→Act→World→Prop) (hs:∀l a w,I l a w→∀j∈Region.ready .any ops l,wpOpIn F n P ops Q j (I (l.setIfInBounds j true)) a w)
  (he:∀l a w,I l a w→Region.ready .any ops l= []→Q .normal a w):∀(fuel:Nat) (l:Array Bool) (a:Act) (w:World),I l a w→(l.toList.filter (fun b=> !b)).length≤fuel→wpAnyIn F n P .any ops Q fuel l a w:=by
 intro fuel
 induction fuel with
 | zero=>
  intro l a w hI hf;have hr:Region.ready .any ops l= []:=by
    apply List.eq_nil_iff_forall_not_mem.2;intro j hj;have:=unlisted_set (mem_ready.1 hj).1;omega
  exact⟨hr,he l a w hI hr⟩
 | succ fuel ih=>
  intro l a w hI hf;refine⟨he l a w hI,fun i hi=>wpOpIn_mono (fun a w h=>ih _ a w h ?_) (hs l a w hI i hi)⟩;have:=unlisted_set (mem_ready.1 hi).1;omega
theorem wpAnyIn_gx {F:Fence} {m:Nat} {ops:Array Oper} {Q:Exit→Act→World→Prop} {a0:Act} {w0:World} (n:Nat) (hn:ops.size=n) (hok:okX ops=true) (us:List (Option Value)) (hu:us.length=n)
   (hsl:ops.all (fun o=>match o.dst with | none=>true | some t=>decide (t<a0.tmps.size))=true) (J:Array Bool→(Nat→Value)→World→Prop) (hJ0:J (Array.replicate n false) (fun _=>undef) w0)
   (hop:∀(j:Nat) (o:Oper),j<n→ops[j]?=some o→∀a w l vs,l.size=n→l.getD j false=false→J l vs w→(∀t:Nat,ops.toList.all (fun p=>p.dst !=some t||p.after.any (fun e=>Region.binds .any e&&e.on == j))=true→a.eval (.tmp t)=a0.eval (.tmp t))→
     (∀(i t:Nat),o.after.any (fun e=>Region.binds .any e&&e.on == i)=true→ops[i]?.bind (·.dst)=some t→a.eval (.tmp t)=vs i∧told us i (vs i))→(∀i:Nat,o.after.any (fun e=>Region.binds .any e&&e.on == i)=true→l.getD i false=true)→(∀(i:Nat),(match ops[i]? with | none=>false | some p=>reaches ops j 8 p)=true→l.getD i false=false)→
     o.wpIn F m Tryz.prog a w (fun a' w'=>∃v,a'=a.put o.dst v∧told us j v∧J (l.setIfInBounds j true) (fun i=>if i=j then v else vs i) w') Q)
   (hQ:∀l vs w,(∀j,j<n→l.getD j false=true)→J l vs w→(∀j,j<n→told us j (vs j))→Q .normal (Qz a0 ops.toList ((List.range n).map vs)) w):
   wpAnyIn F m Tryz.prog .any ops Q n (Array.replicate n false) a0 w0:=by
 subst hn;have K:=okX_spec hok;have hsl':∀o∈ops,∀t,o.dst=some t→t<a0.tmps.size:=by
   intro o ho t ht;have:=(Array.all_eq_true_iff_forall_mem.1 hsl) o ho;rw [ht] at this;simpa using this
 let I:Array Bool→Act→World→Prop:=fun l a w=>l.size=ops.size∧a.defers=a0.defers∧a.tmps.size=a0.tmps.size∧(∀t,(∀(i:Nat) (p:Oper),ops[i]?=some p→p.dst=some t→l.getD i false=false)→a.tmps[t]?=a0.tmps[t]?)∧(∀(i:Nat) (p:Oper),ops[i]?=some p→l.getD i false=true→∀e∈p.after,Region.binds .any e=true→l.getD e.on false=true)∧
   ∃vs:Nat→Value,(∀(j:Nat) (o:Oper) (t:Nat),ops[j]?=some o→o.dst=some t→l.getD j false=true→a.tmps[t]?=some (vs j))∧(∀j:Nat,l.getD j false=true→told us j (vs j))∧J l vs w
 have hrep:∀j,(Array.replicate ops.size false).getD j false=false:=by
   intro j;rw [Array.getD_eq_getD_getElem?,Array.getElem?_replicate];split <;> rfl
 refine wpAnyIn_inv I ?_ ?_ ops.size _ a0 w0 ⟨by simp,rfl,rfl,fun _ _=>rfl,(fun i p _ hl=>by rw [hrep] at hl;cases hl),fun _=>undef,(fun j o t ho ht hl=>by rw [hrep] at hl;cases hl),(fun j hl=>by rw [hrep] at hl;cases hl),hJ0⟩ (by simp)
 · rintro l a w ⟨i1,i2,i3,i4,i8,vs,i5,i7,i6⟩ j hj;obtain⟨hjl,o,ho,hdeps⟩:=mem_ready.1 hj;have hjs:j<ops.size:=(Array.getElem?_eq_some_iff.1 ho).1;have hjf:l.getD j false=false:=by
     simp only [Array.getD_eq_getD_getElem?] at hjl⊢;rw [Array.getElem?_eq_getElem (by omega)] at hjl⊢;simpa using hjl
   have hdep:∀i:Nat,o.after.any (fun e=>Region.binds .any e&&e.on == i)=true→l.getD i false=true:=by
     intro i hi;obtain⟨k,hk,hb⟩:=Array.any_eq_true.1 hi;have he:=Array.getElem_mem hk;obtain⟨e,hee⟩:∃e,o.after[k]=e:=⟨_,rfl⟩;rw [hee] at hb he;simp only [Bool.and_eq_true,beq_iff_eq] at hb;have:=hdeps e he hb.1
     rwa [hb.2] at this
   have hin:∀(i s:Nat),o.after.any (fun e=>Region.binds .any e&&e.on == i)=true→ops[i]?.bind (·.dst)=some s→a.eval (.tmp s)=vs i∧told us i (vs i):=by
     intro i s hi hs;cases hq:ops[i]? with
     | none=>rw [hq] at hs;cases hs
     | some p=>
       rw [hq] at hs;have hv:=i5 i p s hq hs (hdep i hi);exact⟨by simp [Act.eval,Array.getD_eq_getD_getElem?,hv],i7 i (hdep i hi)⟩
   have next:∀v w',told us j v→J (l.setIfInBounds j true) (fun i=>if i=j then v else vs i) w'→I (l.setIfInBounds j true) (a.put o.dst v) w':=by
     intro v w' hv hJ;refine⟨by simp [i1],by rw [put_defers];exact i2,by rw [put_size];exact i3,?_,?_,_,?_,?_,hJ⟩
     · intro s hs;have hns:o.dst≠some s:=by
         intro e;have:=hs j o ho e;rw [Zn (by omega),if_pos rfl] at this;cases this
       rw [Zd _ _ _ _ hns];refine i4 s fun i p hp hd=> ?_;have:=hs i p hp hd;rw [Zn (by omega)] at this;split at this
       · cases this
       · exact this
     · intro i p hp hl e he hb;rw [Zn (by omega)] at hl⊢;by_cases hij:i=j
       · subst hij;rw [ho] at hp;cases hp;rw [hdeps e he hb];split <;> rfl
       · rw [if_neg hij] at hl;rw [i8 i p hp hl e he hb];split <;> rfl
     · intro i p s hp hs hl;rw [Zn (by omega)] at hl;by_cases hij:i=j
       · subst hij;rw [ho] at hp;cases hp;simp only [if_true];rw [hs];exact ZR _ _ _ (by rw [i3];exact hsl' o (Array.mem_of_getElem? ho) s hs)
       · rw [if_neg hij] at hl;simp only [if_neg hij];rw [Zd _ _ _ _ (by
          rcases Nat.lt_or_gt_of_ne hij with h | h
          · exact K.apart i j p o s h hp ho hs
          · exact fun e=>K.apart j i o p s h ho hp e hs)]
         exact i5 i p s hp hs hl
     · intro i hl;rw [Zn (by omega)] at hl;by_cases hij:i=j
       · subst hij;simp only [if_true];exact hv
       · rw [if_neg hij] at hl;simp only [if_neg hij];exact i7 i hl
   unfold wpOpIn;rw [ho];simp only;have hout:∀s:Nat,ops.toList.all (fun p=>p.dst !=some s||p.after.any (fun e=>Region.binds .any e&&e.on == j))=true→a.eval (.tmp s)=a0.eval (.tmp s):=by
     intro s hs;have:=i4 s (fun i p hp e=>by
       have h1:=(List.all_eq_true.1 hs) p (by simpa using Array.mem_of_getElem? hp);rw [e] at h1;simp only [bne_self_eq_false,Bool.false_or] at h1;obtain⟨q,hq,hb⟩:=Array.any_eq_true.1 h1;simp only [Bool.and_eq_true,beq_iff_eq] at hb;cases hli:l.getD i false with
       | false=>rfl
       | true=>
         have:=i8 i p hp hli _ (Array.getElem_mem hq) hb.1;rw [hb.2,hjf] at this;cases this)
     simp [Act.eval,Array.getD_eq_getD_getElem?,this]
   have hnot:∀(i:Nat),(match ops[i]? with | none=>false | some p=>reaches ops j 8 p)=true→l.getD i false=false:=by
     intro i hi;cases hp:ops[i]? with
     | none=>rw [hp] at hi;cases hi
     | some p=>
       rw [hp] at hi;cases hli:l.getD i false with
       | false=>rfl
       | true=>
         have:=reach_listed i8 8 p (i8 i p hp hli) hi;rw [hjf] at this;cases this
   rw [if_pos (by simp [Region.wanted,K.guard j o ho])];exact(Oper.wpIn_mono (fun a' w' ⟨v,e,hv,hJ⟩=>by rw [e];exact next v w' hv hJ) (hop j o hjs ho a w l vs i1 hjf i6 hout hin hdep hnot))
 · rintro l a w ⟨i1,i2,i3,i4,i8,vs,i5,i7,i6⟩ hr;have hall:∀n j,j<n→j<ops.size→l.getD j false=true:=by
     intro n
     induction n with
     | zero=>intro j hj;omega
     | succ n ih=>
       intro j hj hjs;cases hlj:l.getD j false with
       | true=>rfl
       | false=>
         exfalso;have hmem:j∈Region.ready .any ops l:=by
          rw [mem_ready];refine⟨?_,ops[j],Array.getElem?_eq_getElem hjs,fun e he hb=> ?_⟩
          · simp only [Array.getD_eq_getD_getElem?] at hlj⊢;rw [Array.getElem?_eq_getElem (by omega)] at hlj⊢;simpa using hlj
          · have:=K.back j ops[j] (Array.getElem?_eq_getElem hjs) e he hb;exact ih e.on (by omega) (by omega)
         rw [hr] at hmem;cases hmem
   have hl:=fun j (hj:j<ops.size)=>hall (j+1) j (by omega) hj;have ha:a=Qz a0 ops.toList ((List.range ops.size).map vs):=by
     have hs:=putAll_size ops.toList ((List.range ops.size).map vs) a0;have hdst:∀(i j:Nat) (p q:Oper) (t:Nat),ops.toList[i]?=some p→ops.toList[j]?=some q→i≠j→p.dst=some t→q.dst≠some t:=by
       intro i j p q t hp hq hij;rw [Array.getElem?_toList] at hp hq;rcases Nat.lt_or_gt_of_ne hij with h | h
       · exact K.apart i j p q t h hp hq
       · exact fun e1 e2=>K.apart j i q p t h hq hp e2 e1
     have ht:a.tmps=(Qz a0 ops.toList ((List.range ops.size).map vs)).tmps:=by
       apply Array.ext_getElem?;intro t;by_cases hx:∃(j:Nat) (o:Oper),ops[j]?=some o∧o.dst=some t
       · obtain⟨j,o,ho,hd⟩:=hx;have hjs:j<ops.size:=(Array.getElem?_eq_some_iff.1 ho).1;have hv:=i5 j o t ho hd (hl j hjs);have hvv:((List.range ops.size).map vs)[j]?=some (vs j):=by simp [hjs]
         rw [hv,putAll_sameW ops.toList ((List.range ops.size).map vs) a0 j o (vs j) t (by rw [Array.getElem?_toList];exact ho) hvv hd (hsl' o (Array.mem_of_getElem? ho) t hd) hdst]
       · have hno:∀p∈ops.toList,p.dst≠some t:=by
          intro p hp e;obtain⟨j,hj⟩:=List.mem_iff_getElem?.1 hp;exact hx ⟨j,p,by rw [← Array.getElem?_toList];exact hj,e⟩
         rw [i4 t (fun i p hp e=>absurd e (hno p (by simpa using Array.mem_of_getElem? hp))),Zl ops.toList ((List.range ops.size).map vs) a0 t hno]
     cases a
     simp only at ht i2;cases hp:Qz a0 ops.toList ((List.range ops.size).map vs) with
     | mk tm df=>
       rw [hp] at ht hs;simp only at ht hs;rw [ht,i2,hs.2]
   rw [ha];exact hQ l vs w hl i6 fun j hj=>i7 j (hl j hj)
theorem o_yield {l lp m k:Nat} {o:Oper} {a:Act} {w:World} {K:Act→World→Prop} {Q:Exit→Act→World→Prop} (t:Nat) (args:Array Operand) (ts:Array TypeId) (ho:o.op= .call { callee:= .value (.tmp t),args:=args,argTypes:=ts }) (hf:a.eval (.tmp t)= .func (.yield lp) #[] #[]) (vs:Array Value) (hv:args.map a.eval=vs)
   {R:Ending→World→Prop} (hy:YieldAt Fence.wide m Tryz.prog lp vs w R) (hK:∀e w',R e w'→∃v,e= .returned v∧K (a.put o.dst v) w'):o.wpIn (Fence.wide.inRound l) k Tryz.prog a w K Q:=by
 obtain⟨fn,tmps,assign,body,hr,hR⟩:=hy;subst hv;refine⟨fun f _=>trivial,?_⟩;rw [Fence.inRound_round,Oper.semAt_some l _ o (fun c e=>by rw [ho] at e;cases e)];unfold execOp;simp only [ho,resolve,hf];simp [invoke,go_sem,hr];refine⟨?_,hR.1,fun c cs _=> ?_⟩
 · intro h;simp [Fence.wide] at h
 · obtain⟨e,w',hre,hs⟩:=hR.2 c cs (room_wide _);obtain⟨v,rfl,hk⟩:=hK e w' hre;exact⟨.returned v,w',hk,hs⟩
open Go.RowKit
open Le (Mm Qh Qo)
def rl (o:Option Dv.Dev) (j:Job) (v:Vi.Vw):List (Nat×Bool):=if first0 [qa (decide (0<Qs o)) 1,qa (Qu o j) 2]=0 then v.list.map (fun x=>(x.1,mready o j x.1 x.2 v.nu)) else []
theorem dv_j {W W':World} {b g:Nat} {D:Dv.Dev} (h:Dv.Dv W b g D) (k:Vi.Zw W W'):Dv.Dv W' b g D:=by
 obtain⟨cap,h1,ex,h2,h3⟩:=h.lay;exact⟨h.ok,h.ne,cap,k.block b _ _ _ (by decide) (by decide) h1,ex,k.block g _ _ _ (by decide) (by decide) h2,h3⟩
theorem dv_grown {W W':World} {row:Option Nat} {b g:Nat} {D:Dv.Dev} (h:Dv.Dv W b g D) (hg:W.grownBy W' row) (hr:∀r,row=some r→∃o:Obj,W.heap[r]?=some o∧o.isCells=false):Dv.Dv W' b g D:=by
 obtain⟨cap,h1,ex,h2,h3⟩:=h.lay;exact⟨h.ok,h.ne,cap,Vi.cells_kept h1 hg hr,ex,Vi.cells_kept h2 hg hr,h3⟩
theorem dq_j {W W':World} {p:Value} {o:Option Dv.Dev} (h:Dq W p o) (k:Vi.Zw W W'):Dq W' p o:=by
 cases o with
 | none=>exact h
 | some D=>
  obtain⟨b,g,e,hd⟩:=h;exact⟨b,g,e,dv_j hd k⟩
theorem dq_grown {W W':World} {row:Option Nat} {p:Value} {o:Option Dv.Dev} (h:Dq W p o) (hg:W.grownBy W' row) (hr:∀r,row=some r→∃o:Obj,W.heap[r]?=some o∧o.isCells=false):Dq W' p o:=by
 cases o with
 | none=>exact h
 | some D=>
  obtain⟨b,g,e,hd⟩:=h;exact⟨b,g,e,dv_grown hd hg hr⟩
structure Rf (c1 c2 c3 c4:Nat) (ao:Option Addr) (o:Option Dv.Dev) (j:Job) (v:Vi.Vw) (lp:Nat) (W:World):Prop where
 C1:Blk W c1 32 [.pointer ao]
 C2:Blk W c2 23 (Qf j)
 C3:Blk W c3 29 (Vi.vwC v)
 C4:Blk W c4 144 [.func (.yield lp) #[] #[]]
 D:Dq W (.pointer ao) o
theorem Rf.j {c1 c2 c3 c4:Nat} {ao:Option Addr} {o:Option Dv.Dev} {j:Job} {v:Vi.Vw} {lp:Nat} {W W':World} (h:Rf c1 c2 c3 c4 ao o j v lp W) (k:Vi.Zw W W'):Rf c1 c2 c3 c4 ao o j v lp W':=
 ⟨k.blk h.C1 (by decide) (by decide),k.blk h.C2 (by decide) (by decide),k.blk h.C3 (by decide) (by decide),k.blk h.C4 (by decide) (by decide),dq_j h.D k⟩
theorem Rf.k {c1 c2 c3 c4:Nat} {ao:Option Addr} {o:Option Dv.Dev} {j:Job} {v:Vi.Vw} {lp:Nat} {W W':World} (h:Rf c1 c2 c3 c4 ao o j v lp W) (k:Kept [] W W'):Rf c1 c2 c3 c4 ao o j v lp W':=h.j (Vi.Zw.of_kept k)
theorem Rf.grown {c1 c2 c3 c4:Nat} {ao:Option Addr} {o:Option Dv.Dev} {j:Job} {v:Vi.Vw} {lp:Nat} {W W':World} {row:Option Nat} (h:Rf c1 c2 c3 c4 ao o j v lp W) (hg:W.grownBy W' row) (hr:∀r,row=some r→∃o:Obj,W.heap[r]?=some o∧o.isCells=false):Rf c1 c2 c3 c4 ao o j v lp W':=
 ⟨Vi.blk_grown h.C1 hg hr,Vi.blk_grown h.C2 hg hr,Vi.blk_grown h.C3 hg hr,Vi.blk_grown h.C4 hg hr,dq_grown h.D hg hr⟩
theorem KeepsFrom.mono {B C:Nat} {W W':World} (h:KeepsFrom B W W') (hB:B≤C):KeepsFrom C W W':=⟨h.size,fun k o hk h0 ho=>h.same k o (Nat.le_trans hB hk) h0 ho⟩
section
variable {o:Oper} {a:Act} {w:World} {K:Act→World→Prop} {Q:Exit→Act→World→Prop}
theorem o_load144 (x:Operand) (ho:o.op= .load 144 x) (p:Addr) (v:Value) (hx:a.eval x= .pointer (some p)) (hc:w.cell? p=some v) (h:K (a.put o.dst v) w):o.wp Tryz.prog a w K Q:=by
 unfold Oper.wp execOp;simp only [ho,hx];simp [go_sem,hc];exact h
theorem o_neq39 (x:Operand) (c:Int) (ho:o.op= .binOp .neq 39 x (.const (.int .i64 c)) 39) (m:Int) (r:Bool) (hr:(!decide (m=c))=r) (hx:a.eval x= .int .i64 m) (h:K (a.put o.dst (.bool r)) w):o.wp Tryz.prog a w K Q:=by
 subst hr;unfold Oper.wp execOp;simp only [ho,hx];simp [go_sem,Act.eval];exact h
end
theorem wpBoxY {ops:Array Oper} {rest:List Oper} {op:Oper} {a:Act} {w:World} {Q:Exit→Act→World→Prop} {T:Nat} (hgd:op.guard=none) (x:Operand) (ho:op.op= .box T x) (lp:Nat) (hx:a.eval x= .func (.yield lp) #[] #[])
  (h:∀W b,b=w.heap.size→Blk W b T [.func (.yield lp) #[] #[]]→Kept [] w W→wpList Tryz.prog ops Q rest (a.put op.dst (P0 b)) W):wpList Tryz.prog ops Q (op::rest) a w:=
 wpList_plain hgd fun K hK=>by
  unfold Oper.wp execOp;simp only [ho,hx];exact hK _ _ (h _ _ rfl (Blk.new w T _) ((Kept.refl _ _).alloc _))
@[reducible] def SH (W0:World) (B:Nat) (Pre Yes No:World→Prop) (d:Nat→Bool) (vs:Nat→Value) (W:World):Prop:=
 (d 9=false→Pre W∧Kept [] W0 W)∧(d 9=true→(vs 9= .bool true∧Yes W∧Vi.Zw W0 W∧KeepsFrom B W0 W)∨(vs 9= .bool false∧No W∧KeepsFrom B W0 W))∧(d 10=true→d 9=true∧((vs 9= .bool true∧vs 10= .bool false)∨(vs 9= .bool false∧vs 10= .bool true)))
theorem SH.loc {W0:World} {B:Nat} {Pre Yes No:World→Prop} :∀d d' vs vs' W,(∀i∈ [9,10],d i=d' i∧vs i=vs' i)→SH W0 B Pre Yes No d vs W→SH W0 B Pre Yes No d' vs' W:=by
 intro d d' vs vs' W H h;have e9:=H 9 (by simp);have e10:=H 10 (by simp);unfold SH at h⊢;rw [← e9.1,← e9.2,← e10.1,← e10.2];exact h
theorem cg95 (vs:Array Value) (w:World):(callFunc 95 vs).run Tryz.prog w= .ok (.enter 95 vs) w:=by kernel_rfl
theorem ready_in (lp c1 c2 c3:Nat) (ao:Option Addr) (o:Option Dv.Dev) (j:Job) (v:Vi.Vw) (w:World) (C1:Blk w c1 32 [.pointer ao]) (C2:Blk w c2 23 (Qf j)) (C3:Blk w c3 29 (Vi.vwC v)) (h:Dq w (.pointer ao) o) (hF:Vi.First w) (hv:v.ms.length=8)
   (I Ix:Nat→World→Prop) (hI:∀k A B row,I k A→A.grownBy B row→(∀r,row=some r→w.heap.size≤r∧∃o:Obj,A.heap[r]?=some o∧o.isCells=false)→I k B) (hIx:∀k A B row,Ix k A→A.grownBy B row→(∀r,row=some r→w.heap.size≤r∧∃o:Obj,A.heap[r]?=some o∧o.isCells=false)→Ix k B)
   (hY:∀k x W1,(rl o j v)[k]?=some x→I k W1→YieldAt Fence.wide 1 Tryz.prog lp #[.int .i64 x.1,.bool x.2] W1 fun e W'=>(e= .returned (.bool true)∧I (k+1) W'∧Vi.Zw W1 W'∧KeepsFrom w.heap.size W1 W')∨(e= .returned (.bool false)∧Ix (k+1) W'∧KeepsFrom w.heap.size W1 W'))
   (h0:I 0 w):CallsIn Fence.wide 3 Tryz.prog 93 #[.func (.yield lp) #[] #[],P0 c1,P0 c2,P0 c3] w fun e W'=>(∃v,e= .returned v)∧(I (rl o j v).length W'∨∃k,k<(rl o j v).length∧Ix (k+1) W'):=by
 have hFw:=Vi.wideF;have HC1:=hide C1;have HC2:=hide C2;have HC3:=hide C3;have HD:=hide h;have HF:=hide hF;have HIG:=hide hI;have HIX:=hide hIx;have HYG:=hide hY;have H0:=hide h0;have HV:=hide hv;have HLV:=hide (Vi.Qk hv);obtain⟨S,hS⟩:∃S,rl o j v=S:=⟨_,rfl⟩;rw [hS] at HYG⊢;unfold rl at hS;obtain⟨x,hx⟩:∃x,first0 [qa (decide (0<Qs o)) 1,qa (Qu o j) 2]=x:=⟨_,rfl⟩;have HX:=hide hx;rw [hx] at hS;have HS:=hide hS;obtain⟨tb,htb⟩:∃tb,(!decide (x=0))=tb:=⟨_,rfl⟩;have HTB:=hide htb;clear C1 C2 C3 h hF hI hIx hY h0 hv hx hS htb;refine callsIn_of_wp_marks Tryz.func93 rfl trivial ?_ rfl;simp only [Tryz.ntmps93,List.size_toArray,List.length_cons,List.length_nil,Nat.reduceAdd,Nat.reduceSub,Array.replicate_succ,Array.replicate_zero,List.push_toArray,List.append_toArray,List.nil_append,List.cons_append];rw [wpIn_wide];have M:Hid (Mm [] w w []):=hide Mm.init;go_wp2_with (first |(refine wpBoxY rfl (.tmp 0) rfl lp rfl ?_;intro W1 b4 e1 B1 K1;replace M:=hide ((Qa M).new e1 B1 K1);clear e1 B1 K1;refine Stp.go ?_))
 constructor
 go_wp2_with fail
 refine wp_region_any mixed (QL 8 rfl (by kernel_rfl) [some (.pointer ao),none,some (.pointer ao),some (Qd (Qf j)),none,none,some (.int .i64 x),some (.bool tb)] rfl (by kernel_rfl) (fun l vs W=>(SQ w (fun _=> [(b4,144,[.func (.yield lp) #[] #[]])]) [] [] 100 5 [(1,qa (decide (0<Qs o)) 1),(4,qa (Qu o j) 2)]) (fun i=>l.getD i false) vs W) (⟨fun _=>⟨(Qa M).drew,(by simp),(fun h=>by cases h)⟩,fun h=>by cases h⟩) ?_ ?_)
 · intro ix o' hi ho a' w2 l vs hls hlf hJ hout hin hdep hnot
   match ix,ho with
   | 0,ho=>
     obtain rfl:=Oj9 ho;have e0:=hout 1 (by kernel_rfl);replace e0:a'.eval (.tmp 1)=_:=e0.trans rfl;have h100:l.getD 100 false=false:=by rw [Array.getD_eq_getD_getElem?,Array.getElem?_eq_none (by omega)];rfl
     obtain⟨hM,-,-⟩:=hJ.1 h100;exact Zz (.tmp 1) rfl _ _ e0 (Qb ((Qa HC1).kept hM.kept (by simp)) 0 _ rfl) ⟨_,rfl,Qe rfl,Le.Qj [100,5,1,4] (SQ.loc (qs:= [(1,qa (decide (0<Qs o)) 1),(4,qa (Qu o j) 2)])) (by omega) (by decide) hJ⟩
   | 1,ho=>
     obtain rfl:=Oj9 ho;have e0:a'.eval (.tmp 7)= .pointer ao:=by have h9:=hin 0 7 (by kernel_rfl) (by kernel_rfl);exact h9.1.trans (Qc _ h9.2 rfl)
     have h100:l.getD 100 false=false:=by rw [Array.getD_eq_getD_getElem?,Array.getElem?_eq_none (by omega)];rfl
     obtain⟨hM,-,-⟩:=hJ.1 h100;refine Qq 44 _ _ rfl #[.pointer ao] (by simp [e0]) (cg44 _ _) ((there44 (.pointer ao) o w2 ((Qa HD).kept hM.kept)).mono ?_);rintro e w3 ⟨q,rfl,hq1,hk3⟩;exact⟨_,rfl,_,rfl,QA rfl,Le.QJ (by omega) (SQ.ask hJ h100 (hnot 5 (by kernel_rfl)) hk3 hq1 (by decide) (by decide) (by simp))⟩
   | 2,ho=>
     obtain rfl:=Oj9 ho;have e0:=hout 1 (by kernel_rfl);replace e0:a'.eval (.tmp 1)=_:=e0.trans rfl;have h100:l.getD 100 false=false:=by rw [Array.getD_eq_getD_getElem?,Array.getElem?_eq_none (by omega)];rfl
     obtain⟨hM,-,-⟩:=hJ.1 h100;exact Zz (.tmp 1) rfl _ _ e0 (Qb ((Qa HC1).kept hM.kept (by simp)) 0 _ rfl) ⟨_,rfl,Qe rfl,Le.Qj [100,5,1,4] (SQ.loc (qs:= [(1,qa (decide (0<Qs o)) 1),(4,qa (Qu o j) 2)])) (by omega) (by decide) hJ⟩
   | 3,ho=>
     obtain rfl:=Oj9 ho;have e0:=hout 2 (by kernel_rfl);replace e0:a'.eval (.tmp 2)=_:=e0.trans rfl;have h100:l.getD 100 false=false:=by rw [Array.getD_eq_getD_getElem?,Array.getElem?_eq_none (by omega)];rfl
     obtain⟨hM,-,-⟩:=hJ.1 h100;exact Qw Zv (.tmp 2) rfl c2 0 e0 (Qf j) rfl ((Qa HC2).kept hM.kept (by simp)).range ⟨_,rfl,Qe rfl,Le.Qj [100,5,1,4] (SQ.loc (qs:= [(1,qa (decide (0<Qs o)) 1),(4,qa (Qu o j) 2)])) (by omega) (by decide) hJ⟩
   | 4,ho=>
     obtain rfl:=Oj9 ho;have e0:a'.eval (.tmp 9)= .pointer ao:=by have h9:=hin 2 9 (by kernel_rfl) (by kernel_rfl);exact h9.1.trans (Qc _ h9.2 rfl)
     have e1:a'.eval (.tmp 10)=Qd (Qf j):=by have h9:=hin 3 10 (by kernel_rfl) (by kernel_rfl);exact h9.1.trans (Qc _ h9.2 rfl)
     have h100:l.getD 100 false=false:=by rw [Array.getD_eq_getD_getElem?,Array.getElem?_eq_none (by omega)];rfl
     obtain⟨hM,-,-⟩:=hJ.1 h100;refine Qq 45 _ _ rfl #[.pointer ao,Qd (Qf j)] (by simp [e0,e1]) (cg45 _ _) ((fits45 (.pointer ao) o j w2 ((Qa HD).kept hM.kept)).mono ?_);rintro e w3 ⟨q,rfl,hq1,hk3⟩;exact⟨_,rfl,_,rfl,QA rfl,Le.QJ (by omega) (SQ.ask hJ h100 (hnot 5 (by kernel_rfl)) hk3 hq1 (by decide) (by decide) (by simp))⟩
   | 5,ho=>
     obtain rfl:=Oj9 ho;have e0:a'.eval (.tmp 8)=vs 1:=(hin 1 8 (by kernel_rfl) (by kernel_rfl)).1;have e1:a'.eval (.tmp 11)=vs 4:=(hin 4 11 (by kernel_rfl) (by kernel_rfl)).1;have h100:l.getD 100 false=false:=by rw [Array.getD_eq_getD_getElem?,Array.getElem?_eq_none (by omega)];rfl
     obtain⟨hM,hQ,-⟩:=hJ.1 h100;have h1:=hdep 1 (by kernel_rfl);have h4:=hdep 4 (by kernel_rfl);exact o_bs2 (.tmp 8) (.tmp 11) rfl _ _ e0 e1 (hQ (1,qa (decide (0<Qs o)) 1) (by simp) h1) (hQ (4,qa (Qu o j) 2) (by simp) h4) ⟨_,rfl,QA rfl,Le.QJ (by omega) (SQ.row hJ h100 (by intro q hq;simp at hq;rcases hq with rfl | rfl;exact h1;exact h4) (by decide) (by simp))⟩
   | 6,ho=>
     obtain rfl:=Oj9 ho;have e0:a'.eval (.tmp 12)=vs 5:=(hin 5 12 (by kernel_rfl) (by kernel_rfl)).1;have h100:l.getD 100 false=false:=by rw [Array.getD_eq_getD_getElem?,Array.getElem?_eq_none (by omega)];rfl
     obtain⟨p,hp,L,hLn,hLr,hLq,hLs⟩:=SQ.list hJ h100 (hdep 5 (by kernel_rfl));refine Qq 67 _ _ rfl #[.slice (some ⟨p,0,none⟩) 2 2] (by simp only [List.map_toArray,List.map_cons,List.map_nil,e0];rw [hp];rfl) (cg67 _ _) ((told_pure p 2 2 w2 L hLn (by omega) hLr hLq).mono ?_);rintro e w3 ⟨rfl,hk3⟩;rw [hLs];exact⟨_,rfl,_,rfl,Qe (by rw [← Qa HX];rfl),Le.Qj [100,5,1,4] (SQ.loc (qs:= [(1,qa (decide (0<Qs o)) 1),(4,qa (Qu o j) 2)])) (by omega) (by decide) (SQ.step hJ h100 hk3)⟩
   | 7,ho=>
     obtain rfl:=Oj9 ho;have e0:a'.eval (.tmp 13)= .int .i64 x:=by have h9:=hin 6 13 (by kernel_rfl) (by kernel_rfl);exact h9.1.trans (Qc _ h9.2 rfl)
     exact o_neq39 (.tmp 13) 0 rfl x tb (Qa HTB) e0 ⟨_,rfl,Qe rfl,Le.Qj [100,5,1,4] (SQ.loc (qs:= [(1,qa (decide (0<Qs o)) 1),(4,qa (Qu o j) 2)])) (by omega) (by decide) hJ⟩
 intro l_ vs4 V4 hl hJ htold;have t0:vs4 0= .pointer ao:=Qc _ (htold 0 (by decide)) rfl;have t2:vs4 2= .pointer ao:=Qc _ (htold 2 (by decide)) rfl;have t3:vs4 3=Qd (Qf j):=Qc _ (htold 3 (by decide)) rfl;have t6:vs4 6= .int .i64 x:=Qc _ (htold 6 (by decide)) rfl;have t7:vs4 7= .bool tb:=Qc _ (htold 7 (by decide)) rfl;rw [show (List.range 8).map vs4= [vs4 0,vs4 1,vs4 2,vs4 3,vs4 4,vs4 5,vs4 6,vs4 7] from rfl];simp only [t0,t2,t3,t6,t7,Qz,Act.put,List.setIfInBounds_toArray,List.set_cons_succ,List.set_cons_zero];clear t0 t2 t3 t6 t7 htold;have M4:Hid (Mm [] w V4 [(b4,144,[.func (.yield lp) #[] #[]])]):=by
   cases hd:l_.getD 100 false with
   | false=>exact (hJ.1 hd).1
   | true=>exact hJ.2 hd
 generalize vs4 1=u1;generalize vs4 4=u4;generalize vs4 5=u5;clear hJ hl M;have hI4:=hide (Qa HIG 0 w V4 none (Qa H0) (Vi.QZ (Qa M4).kept) (fun r e=>by cases e));cases tb with
 | false=>
   have hx0:x=0:=by have h9:=Qa HTB;simpa using h9
   have HSM:Hid (S=v.list.map (fun x=>(x.1,mready o j x.1 x.2 v.nu))):=by
     have h9:=Qa HS;rw [if_pos hx0] at h9;exact h9.symm
   clear hx0 HX HS HTB;go_wp2_with (first |(refine Qg Vi.Qn rfl (.tmp 3) rfl c3 0 rfl (Vi.vwC v) (Qa HLV) ((Qa HC3).kept (Qa M4).kept (by simp)).range ?_;refine Stp.go ?_))
   constructor
   go_wp2_with (first |(go_at_call 94;refine(Vi.members30 v _).mono ?_;rintro e V5 ⟨p,rfl,hbp,hgp,hk5⟩;have HP:=hide hbp;have M5:Hid (Mm [] w V5 [(b4,144,[.func (.yield lp) #[] #[]])]):=hide ((Qa M4).step hk5);clear hbp hgp hk5;refine Stp.go ?_))
   constructor
   go_wp2_with fail
   rw [← wpIn_wide (n:=3)];have HW:Hid (w.heap.size≤V5.heap.size):=(Qa M5).kept.size;have HR5:Hid (Rf c1 c2 c3 b4 ao o j v lp V5):=⟨(Qa HC1).kept (Qa M5).kept (by simp),(Qa HC2).kept (Qa M5).kept (by simp),(Qa HC3).kept (Qa M5).kept (by simp),(Qa M5).at 0 _ rfl,(Qa HD).kept (Qa M5).kept⟩;have HI5:=hide (Qa HIG 0 w V5 none (Qa H0) (Vi.QZ (Qa M5).kept) (fun r e=>by cases e));have HLL:Hid (S.length=v.list.length):=by show _=_;rw [Qa HSM,List.length_map]
   refine Vi.wp_rangeM p v v.list rfl rfl rfl (Qa HP) ((Qa HF).kept (Qa M5).kept) (Qa HV)
     (fun pre W=>I pre.length W∧Rf c1 c2 c3 b4 ao o j v lp W) (fun c pre W=>c= .ret∧Ix pre.length W) ?hI ?hIx ⟨Qa HI5,Qa HR5⟩
     (fun k y a' W=>(I k W∧Rf c1 c2 c3 b4 ao o j v lp W)∧a'= { tmps:= #[.func (.yield lp) #[] #[],P0 c1,P0 c2,P0 c3,P0 b4,.int .i64 y.1,.int .i64 y.2,.pointer ao,u1,.pointer ao,Qd (Qf j),u4,u5,.int .i64 x,.bool false,Qd (Vi.vwC v),.func (.func 142) #[] #[P0 p],.int .i64 y.1,.int .i64 y.2,undef,undef,undef,undef,undef,undef,undef,undef,undef,undef,undef],defers:= [] }) ?hFr ?assign ?body ?done ?stop
   case hI=>
     intro s A B row hs hg hr;exact⟨Qa HIG _ A B row hs.1 hg (fun r e=>⟨Nat.le_trans (Qa HW) (hr r e).1,(hr r e).2⟩),hs.2.grown hg (fun r e=>(hr r e).2)⟩
   case hIx=>
     intro c s A B row hs hg hr;exact⟨hs.1,Qa HIX _ A B row hs.2 hg (fun r e=>⟨Nat.le_trans (Qa HW) (hr r e).1,(hr r e).2⟩)⟩
   case hFr=>
     intro k y a' s A B row hs hg hr;exact⟨⟨Qa HIG _ A B row hs.1.1 hg (fun r e=>⟨Nat.le_trans (Qa HW) (hr r e).1,(hr r e).2⟩),hs.1.2.grown hg (fun r e=>(hr r e).2)⟩,hs.2⟩
   case assign=>
     intro l k y W K hI hy hK;simp only [List.zip_toArray,List.zip_cons_cons,List.zip_nil_right,List.foldl_toArray,List.foldl_cons,List.foldl_nil,List.setIfInBounds_toArray,List.set_cons_succ,List.set_cons_zero];have hlen:(v.list.take k).length=k:=by rw [List.length_take];have:=(List.getElem?_eq_some_iff.1 hy).1;omega
     rw [hlen] at hI
     gi_wp2_with fail
     exact hK _ _ (Kept.refl _ _) ⟨hI,rfl⟩
   case body=>
     rintro l k y a' W0 hy ⟨⟨hI0,hR0⟩,rfl⟩;have hk:=(List.getElem?_eq_some_iff.1 hy).1;have hlen:(v.list.take (k+1)).length=k+1:=by rw [List.length_take];omega
     have HLN:=hide hlen;have HYY:Hid (∀W1,I k W1→YieldAt Fence.wide 1 Tryz.prog lp #[.int .i64 y.1,.bool (mready o j y.1 y.2 v.nu)] W1 fun e W'=>(e= .returned (.bool true)∧I (k+1) W'∧Vi.Zw W1 W'∧KeepsFrom w.heap.size W1 W')∨(e= .returned (.bool false)∧Ix (k+1) W'∧KeepsFrom w.heap.size W1 W')):=fun W1 hI1=>Qa HYG k (y.1,mready o j y.1 y.2 v.nu) W1 (by rw [Qa HSM,List.getElem?_map,hy];rfl) hI1;have HI0:=hide hI0;have HR0:=hide hR0;clear hI0 hR0 hlen hy hk HYG
     gi_wp2_with fail
     refine wpIn_region_any mixed (wpAnyIn_gx 11 rfl (by kernel_rfl) [some (.func (.yield lp) #[] #[]),some (.int .i64 y.1),some (.pointer ao),some (Qd (Qf j)),some (.int .i64 y.1),some (.int .i64 y.2),some (.pointer (some ⟨c3,0,none⟩)),some (.int .i64 v.nu),some (.bool (mready o j y.1 y.2 v.nu)),none,none] rfl (by kernel_rfl) (fun l vs W=>(SH W0 w.heap.size (fun V=>I k V∧Rf c1 c2 c3 b4 ao o j v lp V) (I (k+1)) (Ix (k+1))) (fun i=>l.getD i false) vs W) (⟨fun _=>⟨⟨Qa HIG k W0 _ none (Qa HI0) (Vi.QZ (Kept.refl _ _).drew) (fun r e=>by cases e),(Qa HR0).k (Kept.refl _ _).drew⟩,(Kept.refl _ _).drew⟩,(fun h=>by cases h),(fun h=>by cases h)⟩) ?_ ?_)
     · intro ix o' hi ho a' w2 l vs hls hlf hJ hout hin hdep hnot
       match ix,ho with
       | 0,ho=>
         obtain rfl:=Oj9 ho;have e0:=hout 4 (by kernel_rfl);replace e0:a'.eval (.tmp 4)=_:=e0.trans rfl;refine Vi.Zg (fun c e=>by cases e) ?_;exact o_load144 (.tmp 4) rfl _ _ e0 (Qb (hJ.1 (hnot 9 (by kernel_rfl))).1.2.C4 0 _ rfl) ⟨_,rfl,Qe rfl,Le.Qj [9,10] SH.loc (by omega) (by decide) hJ⟩
       | 1,ho=>
         obtain rfl:=Oj9 ho;have e0:=hout 5 (by kernel_rfl);replace e0:a'.eval (.tmp 5)=_:=e0.trans rfl;refine Vi.Zg (fun c e=>by cases e) ?_;exact wp_move (.tmp 5) rfl _ e0 ⟨_,rfl,Qe rfl,Le.Qj [9,10] SH.loc (by omega) (by decide) hJ⟩
       | 2,ho=>
         obtain rfl:=Oj9 ho;have e0:=hout 1 (by kernel_rfl);replace e0:a'.eval (.tmp 1)=_:=e0.trans rfl;refine Vi.Zg (fun c e=>by cases e) ?_;exact Zz (.tmp 1) rfl _ _ e0 (Qb (hJ.1 (hnot 9 (by kernel_rfl))).1.2.C1 0 _ rfl) ⟨_,rfl,Qe rfl,Le.Qj [9,10] SH.loc (by omega) (by decide) hJ⟩
       | 3,ho=>
         obtain rfl:=Oj9 ho;have e0:=hout 2 (by kernel_rfl);replace e0:a'.eval (.tmp 2)=_:=e0.trans rfl;refine Vi.Zg (fun c e=>by cases e) ?_;exact Qw Zv (.tmp 2) rfl c2 0 e0 (Qf j) rfl (hJ.1 (hnot 9 (by kernel_rfl))).1.2.C2.range ⟨_,rfl,Qe rfl,Le.Qj [9,10] SH.loc (by omega) (by decide) hJ⟩
       | 4,ho=>
         obtain rfl:=Oj9 ho;have e0:=hout 5 (by kernel_rfl);replace e0:a'.eval (.tmp 5)=_:=e0.trans rfl;refine Vi.Zg (fun c e=>by cases e) ?_;exact wp_move (.tmp 5) rfl _ e0 ⟨_,rfl,Qe rfl,Le.Qj [9,10] SH.loc (by omega) (by decide) hJ⟩
       | 5,ho=>
         obtain rfl:=Oj9 ho;have e0:=hout 6 (by kernel_rfl);replace e0:a'.eval (.tmp 6)=_:=e0.trans rfl;refine Vi.Zg (fun c e=>by cases e) ?_;exact wp_move (.tmp 6) rfl _ e0 ⟨_,rfl,Qe rfl,Le.Qj [9,10] SH.loc (by omega) (by decide) hJ⟩
       | 6,ho=>
         obtain rfl:=Oj9 ho;have e0:=hout 3 (by kernel_rfl);replace e0:a'.eval (.tmp 3)=_:=e0.trans rfl;refine Vi.Zg (fun c e=>by cases e) ?_;exact Vi.o_fld26a (.tmp 3) rfl c3 e0 ⟨_,rfl,Qe rfl,Le.Qj [9,10] SH.loc (by omega) (by decide) hJ⟩
       | 7,ho=>
         obtain rfl:=Oj9 ho;have e0:a'.eval (.tmp 25)= .pointer (some ⟨c3,0,none⟩):=by have h9:=hin 6 25 (by kernel_rfl) (by kernel_rfl);exact h9.1.trans (Qc _ h9.2 rfl)
         refine Vi.Zg (fun c e=>by cases e) ?_;exact Za (.tmp 25) rfl _ _ e0 (Qb (hJ.1 (hnot 9 (by kernel_rfl))).1.2.C3 0 _ rfl) ⟨_,rfl,Qe rfl,Le.Qj [9,10] SH.loc (by omega) (by decide) hJ⟩
       | 8,ho=>
         obtain rfl:=Oj9 ho;have e0:a'.eval (.tmp 21)= .pointer ao:=by have h9:=hin 2 21 (by kernel_rfl) (by kernel_rfl);exact h9.1.trans (Qc _ h9.2 rfl)
         have e1:a'.eval (.tmp 22)=Qd (Qf j):=by have h9:=hin 3 22 (by kernel_rfl) (by kernel_rfl);exact h9.1.trans (Qc _ h9.2 rfl)
         have e2:a'.eval (.tmp 23)= .int .i64 y.1:=by have h9:=hin 4 23 (by kernel_rfl) (by kernel_rfl);exact h9.1.trans (Qc _ h9.2 rfl)
         have e3:a'.eval (.tmp 24)= .int .i64 y.2:=by have h9:=hin 5 24 (by kernel_rfl) (by kernel_rfl);exact h9.1.trans (Qc _ h9.2 rfl)
         have e4:a'.eval (.tmp 26)= .int .i64 v.nu:=by have h9:=hin 7 26 (by kernel_rfl) (by kernel_rfl);exact h9.1.trans (Qc _ h9.2 rfl)
         refine Vi.Zg (fun c e=>by cases e) ?_;obtain⟨⟨hI0,hR0⟩,hk0⟩:=hJ.1 (hnot 9 (by kernel_rfl));refine Qq 95 _ _ rfl #[.pointer ao,Qd (Qf j),.int .i64 y.1,.int .i64 y.2,.int .i64 v.nu] (by simp [e0,e1,e2,e3,e4]) (cg95 _ _) ((isReady95 (.pointer ao) o j y.1 y.2 v.nu w2 hR0.D).mono ?_);rintro e w3 ⟨rfl,hk3⟩;have hn9:l.getD 9 false=false:=hnot 9 (by kernel_rfl);have hn10:l.getD 10 false=false:=hnot 10 (by kernel_rfl);exact⟨_,rfl,_,rfl,Qe rfl,Le.Qj [9,10] SH.loc (by omega) (by decide) ⟨fun _=>⟨⟨Qa HIG k w2 w3 none hI0 (Vi.QZ hk3) (fun r e=>by cases e),hR0.k hk3⟩,hk0.trans hk3⟩,(fun h=>by have h:l.getD 9 false=true:=h;rw [hn9] at h;cases h),(fun h=>by have h:l.getD 10 false=true:=h;rw [hn10] at h;cases h)⟩⟩
       | 9,ho=>
         obtain rfl:=Oj9 ho;have e0:a'.eval (.tmp 19)= .func (.yield lp) #[] #[]:=by have h9:=hin 0 19 (by kernel_rfl) (by kernel_rfl);exact h9.1.trans (Qc _ h9.2 rfl)
         have e1:a'.eval (.tmp 20)= .int .i64 y.1:=by have h9:=hin 1 20 (by kernel_rfl) (by kernel_rfl);exact h9.1.trans (Qc _ h9.2 rfl)
         have e2:a'.eval (.tmp 27)= .bool (mready o j y.1 y.2 v.nu):=by have h9:=hin 8 27 (by kernel_rfl) (by kernel_rfl);exact h9.1.trans (Qc _ h9.2 rfl)
         obtain⟨⟨hI0,hR0⟩,hk0⟩:=hJ.1 hlf;have hn10:l.getD 10 false=false:=hnot 10 (by kernel_rfl);refine o_yield 19 _ _ rfl e0 #[.int .i64 y.1,.bool (mready o j y.1 y.2 v.nu)] (by simp [e1,e2]) (Qa HYY w2 hI0) ?_;rintro e w3 (⟨rfl,g1,g2,g3⟩ | ⟨rfl,g1,g3⟩)
         · exact⟨_,rfl,_,rfl,QA rfl,Le.QJ (by omega) ⟨(fun h=>by cases h),(fun _=> .inl ⟨rfl,g1,(Vi.Zw.of_kept hk0).trans g2,(Vi.ZO hk0).trans g3⟩),(fun h=>by have h:l.getD 10 false=true:=h;rw [hn10] at h;cases h)⟩⟩
         · exact⟨_,rfl,_,rfl,QA rfl,Le.QJ (by omega) ⟨(fun h=>by cases h),(fun _=> .inr ⟨rfl,g1,(Vi.ZO hk0).trans g3⟩),(fun h=>by have h:l.getD 10 false=true:=h;rw [hn10] at h;cases h)⟩⟩
       | 10,ho=>
         obtain rfl:=Oj9 ho;have e0:a'.eval (.tmp 28)=vs 9:=(hin 9 28 (by kernel_rfl) (by kernel_rfl)).1;refine Vi.Zg (fun c e=>by cases e) ?_;have h9:l.getD 9 false=true:=hdep 9 (by kernel_rfl);rcases hJ.2.1 h9 with ⟨hv9,g1⟩ | ⟨hv9,g1⟩
         · rw [hv9] at e0;exact o_not (.tmp 28) rfl _ e0 ⟨_,rfl,QA rfl,Le.QJ (by omega) ⟨hJ.1,hJ.2.1,fun _=>⟨h9,.inl ⟨hv9,rfl⟩⟩⟩⟩
         · rw [hv9] at e0;exact o_not (.tmp 28) rfl _ e0 ⟨_,rfl,QA rfl,Le.QJ (by omega) ⟨hJ.1,hJ.2.1,fun _=>⟨h9,.inr ⟨hv9,rfl⟩⟩⟩⟩
     intro l_ vs6 V6 hl hJ htold;have t0:vs6 0= .func (.yield lp) #[] #[]:=Qc _ (htold 0 (by decide)) rfl;have t1:vs6 1= .int .i64 y.1:=Qc _ (htold 1 (by decide)) rfl;have t2:vs6 2= .pointer ao:=Qc _ (htold 2 (by decide)) rfl;have t3:vs6 3=Qd (Qf j):=Qc _ (htold 3 (by decide)) rfl;have t4:vs6 4= .int .i64 y.1:=Qc _ (htold 4 (by decide)) rfl;have t5:vs6 5= .int .i64 y.2:=Qc _ (htold 5 (by decide)) rfl;have t6:vs6 6= .pointer (some ⟨c3,0,none⟩):=Qc _ (htold 6 (by decide)) rfl;have t7:vs6 7= .int .i64 v.nu:=Qc _ (htold 7 (by decide)) rfl;have t8:vs6 8= .bool (mready o j y.1 y.2 v.nu):=Qc _ (htold 8 (by decide)) rfl;rw [show (List.range 11).map vs6= [vs6 0,vs6 1,vs6 2,vs6 3,vs6 4,vs6 5,vs6 6,vs6 7,vs6 8,vs6 9,vs6 10] from rfl];simp only [t0,t1,t2,t3,t4,t5,t6,t7,t8,Qz,Act.put,List.setIfInBounds_toArray,List.set_cons_succ,List.set_cons_zero];clear t0 t1 t2 t3 t4 t5 t6 t7 t8 htold;have hJ2:=hide (hJ.2.1 (hl 9 (by decide)));have hJ3:=hide (hJ.2.2 (hl 10 (by decide))).2;clear hJ hl;rcases Qa hJ3 with ⟨h9,h10⟩ | ⟨h9,h10⟩
     · rw [h9,h10];rcases Qa hJ2 with ⟨-,g1,g2,g3⟩ | ⟨e9,-⟩
       · have G1:=hide g1;have G2:=hide g2;have G3:=hide g3;clear g1 g2 g3 hJ2 hJ3 h9 h10
         gi_wp2_with fail
         refine⟨KeepsFrom.mono (Qa G3) (Qa HW),Qa G2,?_⟩;refine⟨?_,(Qa HR0).j (Qa G2)⟩;rw [Qa HLN];exact Qa G1
       · rw [h9] at e9;cases e9
     · rw [h9,h10];rcases Qa hJ2 with ⟨e9,-⟩ | ⟨-,g1,g3⟩
       · rw [h9] at e9;cases e9
       · have G1:=hide g1;have G3:=hide g3;clear g1 g3 hJ2 hJ3 h9 h10
         gi_wp2_with fail
         refine⟨KeepsFrom.mono (Qa G3) (Qa HW),rfl,?_⟩;rw [Qa HLN];exact Qa G1
   case done=>
     rintro E W hE hI hK;have HI:=hide hI;have HDK:=hide hK;have HDG:Hid (w.heap.size≤E):=Nat.le_trans (Qa HW) hE;clear hI hK;go_wp2_with fail
     have hgr:=grownBy_putObj' W E (Obj.deferred none);refine(show LeavesInM Fence.wide 3 Tryz.prog Tryz.f93 _ _ [{ target:= .collected E,args:= #[] }] .returning W from ?_);refine⟨by simp,.inl ⟨_,_,rfl,run_takeDeferred (Qa HDK),?_⟩⟩;refine⟨_,results_none rfl _ _ _,⟨_,rfl⟩,.inl ?_⟩;rw [Qa HLL];exact Qa HIG _ W _ (some E) (Qa HI).1 hgr (fun r e=>by cases e;exact⟨Qa HDG,_,Qa HDK,rfl⟩)
   case stop=>
     rintro E c k W hE hk ⟨rfl,hX⟩ hK;have hlen:(v.list.take (k+1)).length=k+1:=by rw [List.length_take];omega
     rw [hlen] at hX;have HI:=hide hX;have HDK:=hide hK;have HDG:Hid (w.heap.size≤E):=Nat.le_trans (Qa HW) hE;have HKK:=hide hk;clear hX hK hlen hk;rw [wpIn_wide];go_wp2_with fail
     have hgr:=grownBy_putObj' W E (Obj.deferred none);refine(show LeavesInM Fence.wide 3 Tryz.prog Tryz.f93 _ _ [{ target:= .collected E,args:= #[] }] .returning W from ?_);refine⟨by simp,.inl ⟨_,_,rfl,run_takeDeferred (Qa HDK),?_⟩⟩;refine⟨_,results_none rfl _ _ _,⟨_,rfl⟩,.inr ⟨k,by rw [Qa HLL];exact Qa HKK,?_⟩⟩;exact Qa HIX _ W _ (some E) (Qa HI) hgr (fun r e=>by cases e;exact⟨Qa HDG,_,Qa HDK,rfl⟩)
 | true=>
   have hx0:¬x=0:=by have h9:=Qa HTB;simpa using h9
   have HSM:Hid (S= []):=by
     have h9:=Qa HS;rw [if_neg hx0] at h9;exact h9.symm
   clear HX HS HTB hx0;go_wp2_with fail
   refine(show LeavesInM Fence.wide 3 Tryz.prog Tryz.f93 _ _ [] .returning _ from ?_);refine⟨_,results_none rfl _ _ _,⟨_,rfl⟩,.inl ?_⟩;rw [Qa HSM];exact Qa hI4
open Go.RowKit
open Le (Mm Qh Qo)
open Go.Shelf
theorem _root_.Go.CallsIn.wide_any {n m:Nat} {P:Program} {f:FuncId} {args:Array Value} {w:World} {R:Ending→World→Prop} (h:CallsIn Fence.wide n P f args w R):CallsIn Fence.wide m P f args w R:=callsIn_wide.2 (callsIn_wide.1 h)
theorem wp_rangeR (c1 c2 c3:Nat) (ao:Option Addr) (o:Option Dv.Dev) (j:Job) (v:Vi.Vw) (S:List (Nat×Bool)) (hS:S=rl o j v) {gv:Operand} {ps:Array Tmp} {assign body:Code} {Q:Exit→Act→World→Prop} {a:Act} {w:World}
   (hg:a.eval gv= .func (.func 93) #[] #[P0 c1,P0 c2,P0 c3]) (hps:ps.size=2) (C1:Blk w c1 32 [.pointer ao]) (C2:Blk w c2 23 (Qf j)) (C3:Blk w c3 29 (Vi.vwC v)) (hD:Dq w (.pointer ao) o) (hF:Vi.First w) (hv:v.ms.length=8)
   (I:List (Nat×Bool)→World→Prop) (Ix:Code→List (Nat×Bool)→World→Prop) (hI:OwnFrom w.heap.size I) (hIx:∀c,OwnFrom w.heap.size (Ix c)) (h0:I [] w)
   (Fr:Nat→Nat×Bool→Act→World→Prop) (hFr:∀k x a',OwnFrom w.heap.size (fun(_:Unit) W=>Fr k x a' W))
   (hassign:∀(l:Nat) (k:Nat) (x:Nat×Bool) (W:World) (K:Act→World→Prop),I (S.take k) W→S[k]?=some x→(∀a' W',Kept [] W W'→Fr k x a' W'→K a' W')→
     assign.wpIn (Fence.wide.inRound l) 1 Tryz.prog (Exit.then K (fun _ _ _=>False)) { tmps:=(ps.zip #[.int .i64 x.1,.bool x.2]).foldl (fun t (p,v)=>t.setIfInBounds p v) a.tmps,defers:= [] } W)
   (hbody:∀(l:Nat) (k:Nat) (x:Nat×Bool) (a':Act) (W:World),S[k]?=some x→Fr k x a' W→body.wpIn (Fence.wide.inRound l) 1 Tryz.prog (ownPostG w.heap.size Vi.Zw I Ix (S.take (k+1)) W) a' W)
   (hdone:∀(D:Nat) (W:World),w.heap.size≤D→I S W→W.heap[D]?=some (.deferred (some []))→Q .normal { a with defers:= { target:= .collected D,args:= #[] } ::a.defers } W)
   (hstop:∀(D:Nat) (c:Code) (k:Nat) (W:World),w.heap.size≤D→k<S.length→Ix c (S.take (k+1)) W→W.heap[D]?=some (.deferred (some []))→c.wpIn Fence.wide 3 Tryz.prog Q { a with defers:= { target:= .collected D,args:= #[] } ::a.defers } W):
   (Code.rangeFunc gv ps assign body).wpIn Fence.wide 3 Tryz.prog Q a w:=by
 refine wpIn_rangeFunc ?_;intro fn hfn;obtain⟨bk,hbk⟩:∃bk:LoopState→Option Code→Loop,bk=fun st pe=> { state:=st,pending:=pe,fn:=fn,tmps:=a.tmps,params:=ps,assign:=assign,body:=body,defers:=w.heap.size } :=⟨_,rfl⟩;obtain⟨V,hV⟩:∃V,(w.alloc (.deferred (some []))).alloc (.loop (bk .ready none))=V:=⟨_,rfl⟩;have kV:Kept [] w V:=by rw [← hV];exact((Kept.refl _ _).alloc _).alloc _
 have dV:V.heap[w.heap.size]?=some (.deferred (some [])):=by rw [← hV];exact heap_alloc_old (heap_alloc_new w _)
 have lV:V.heap[w.heap.size+1]?=some (.loop (bk .ready none)):=by
   rw [← hV];have e:(w.alloc (.deferred (some []))).heap.size=w.heap.size+1:=World.size_alloc _ _;rw [← e];exact heap_alloc_new _ _
 refine⟨w.heap.size+1,[{ target:= .collected w.heap.size,args:= #[] }],V,{ target:= .fn (.func 93) #[P0 c1,P0 c2,P0 c3],args:= #[.func (.yield (w.heap.size+1)) #[] #[]] },V,93,#[.func (.yield (w.heap.size+1)) #[] #[],P0 c1,P0 c2,P0 c3],V,?_,?_,fun _ _=>trivial,?_,fun _=>by omega,?_⟩
 · rw [← hV,hbk];exact run_enterLoop_outer fn a.tmps ps assign body
 · simp only [resolve,hg];simp [go_sem]
 · simp [invoke,go_sem]
 -- what the iterator keeps for us:the invariant,and the book as it stands
 have sV:V.heap.size=w.heap.size+1+1:=by rw [← hV,World.size_alloc,World.size_alloc]
 have hlaid:=ready_in (w.heap.size+1) c1 c2 c3 ao o j v V (C1.kept kV (by simp)) (C2.kept kV (by simp)) (C3.kept kV (by simp)) (hD.kept kV) (hF.kept kV) hv
   (fun k W=>I (S.take k) W∧W.heap[w.heap.size+1]?=some (.loop (bk .ready none))∧W.heap[w.heap.size]?=some (.deferred (some [])))
   (fun k W=>∃c,Ix c (S.take k) W∧W.heap[w.heap.size+1]?=some (.loop (bk .done (some c)))∧W.heap[w.heap.size]?=some (.deferred (some [])))
 rw [← hS] at hlaid;refine(CallsIn.wide_any (hlaid ?_ ?_ ?_ ⟨?_,lV,dV⟩)).mono ?_
 · rintro s A B row ⟨g1,g2,g3⟩ hg hr;refine⟨hI _ A B row g1 hg (fun r e=>⟨by have:=(hr r e).1;omega,(hr r e).2⟩),?_,?_⟩
   · rw [hg.block _ (lt_of_block g2) (fun e=>by have:=(hr _ e.symm).1;omega)];exact g2
   · rw [hg.block _ (lt_of_block g3) (fun e=>by have:=(hr _ e.symm).1;omega)];exact g3
 · rintro s A B row ⟨c,g1,g2,g3⟩ hg hr;refine⟨c,hIx c _ A B row g1 hg (fun r e=>⟨by have:=(hr r e).1;omega,(hr r e).2⟩),?_,?_⟩
   · rw [hg.block _ (lt_of_block g2) (fun e=>by have:=(hr _ e.symm).1;omega)];exact g2
   · rw [hg.block _ (lt_of_block g3) (fun e=>by have:=(hr _ e.symm).1;omega)];exact g3
 · rintro k x W hx ⟨g1,g2,g3⟩;have hy:=run_yield (P:=Tryz.prog) (args:= #[.int .i64 x.1,.bool x.2]) g2 (by rw [hbk];show 2=ps.size;exact hps.symm);rw [hbk] at hy;refine⟨fn,_,assign,body,hy,roundIn_of_wpIn hfn (hassign _ k x W _ g1 hx fun a' W' hk hF=> ?_)⟩;have l':=hk.heap g2 (by simp);have d':=hk.heap g3 (by simp);refine⟨_,run_beginRound l' (by rw [hbk]),?_⟩;have l2:(W'.putObj (w.heap.size+1) (.loop { bk .ready none with state:= .busy })).heap[w.heap.size+1]?=some (.loop { bk .ready none with state:= .busy }):=World.putObj_heap_same (lt_of_block l');have d2:(W'.putObj (w.heap.size+1) (.loop { bk .ready none with state:= .busy })).heap[w.heap.size]?=some (.deferred (some [])):=(World.putObj_heap_other (by omega)).trans d';have s2:Vi.Zw W (W'.putObj (w.heap.size+1) (.loop { bk .ready none with state:= .busy })):=(Vi.Zw.of_kept hk).trans (Vi.Zw.putObj l' rfl);refine wpIn_mono (hbody _ k x a' _ hx ((hFr k x a').putObj (s:=()) _ hF (by omega) l' rfl)) ?_;have kb:KeepsFrom V.heap.size W (W'.putObj (w.heap.size+1) (.loop { bk .ready none with state:= .busy })):=(Vi.ZO hk).trans (KeepsFrom.of_grownBy (grownBy_putObj' _ _ _) (fun j e=>by cases e;omega))
   -- how a round ends
   have ends:∀(jump:Option Code) (W3:World),KeepsFrom w.heap.size (W'.putObj (w.heap.size+1) (.loop { bk .ready none with state:= .busy })) W3→∃W4,(Instr.endRound (w.heap.size+1) jump).run Tryz.prog W3= .ok (.bool jump.isNone) W4∧W4=W3.putObj (w.heap.size+1) (.loop (bk (if jump.isNone then .ready else .done) jump))∧(∃o:Obj,W3.heap[w.heap.size+1]?=some o∧o.isCells=false)∧W4.heap[w.heap.size+1]?=some (.loop (bk (if jump.isNone then .ready else .done) jump))∧W4.heap[w.heap.size]?=some (.deferred (some [])):=by
     intro jump W3 hk3;have l3:=hk3.same _ _ (by omega) l2 rfl;have d3:=hk3.same _ _ (Nat.le_refl _) d2 rfl;have hr:=run_endRound (P:=Tryz.prog) jump l3;refine⟨_,hr,by rw [hbk],⟨_,l3,rfl⟩,?_,(World.putObj_heap_other (by omega)).trans d3⟩;rw [World.putObj_heap_same (lt_of_block l3),hbk]
   intro e a3 W3 hp;cases e with
   | normal=>
     obtain⟨k3,q3,i3⟩:=hp;obtain⟨W4,hr,e4,⟨o3,l3,c3⟩,l4,d4⟩:=ends none W3 k3;subst e4;exact⟨_,_,hr,.inl ⟨rfl,⟨hI.putObj _ i3 (by omega) l3 c3,l4,d4⟩,(s2.trans q3).trans (Vi.Zw.putObj l3 c3),(kb.trans (KeepsFrom.mono k3 (by omega))).trans (KeepsFrom.of_grownBy (grownBy_putObj' _ _ _) (fun j e=>by cases e;omega))⟩⟩
   | ret=>
     obtain⟨k3,i3⟩:=hp;obtain⟨W4,hr,e4,⟨o3,l3,c3⟩,l4,d4⟩:=ends (some .ret) W3 k3;subst e4;exact⟨_,_,hr,.inr ⟨rfl,⟨_,(hIx _).putObj _ i3 (by omega) l3 c3,l4,d4⟩,(kb.trans (KeepsFrom.mono k3 (by omega))).trans (KeepsFrom.of_grownBy (grownBy_putObj' _ _ _) (fun j e=>by cases e;omega))⟩⟩
   | exit id=>
     obtain⟨k3,i3⟩:=hp;obtain⟨W4,hr,e4,⟨o3,l3,c3⟩,l4,d4⟩:=ends (some (.exit id)) W3 k3;subst e4;exact⟨_,_,hr,.inr ⟨rfl,⟨_,(hIx _).putObj _ i3 (by omega) l3 c3,l4,d4⟩,(kb.trans (KeepsFrom.mono k3 (by omega))).trans (KeepsFrom.of_grownBy (grownBy_putObj' _ _ _) (fun j e=>by cases e;omega))⟩⟩
   | goto t=>
     obtain⟨k3,i3⟩:=hp;obtain⟨W4,hr,e4,⟨o3,l3,c3⟩,l4,d4⟩:=ends (some (.goto t)) W3 k3;subst e4;exact⟨_,_,hr,.inr ⟨rfl,⟨_,(hIx _).putObj _ i3 (by omega) l3 c3,l4,d4⟩,(kb.trans (KeepsFrom.mono k3 (by omega))).trans (KeepsFrom.of_grownBy (grownBy_putObj' _ _ _) (fun j e=>by cases e;omega))⟩⟩
   | panic ch=>exact hp.elim
   | outgrown=>exact hp.elim
 · rw [← hV];exact hI.alloc _ (hI.alloc _ h0)
 · rintro e W2 ⟨⟨u,rfl⟩,h⟩;rcases h with ⟨i2,l2,d2⟩ | ⟨k,hk,c,i2,l2,d2⟩
   · rw [List.take_length] at i2;have hr:=run_endLoop (P:=Tryz.prog) l2 (by rw [hbk];simp);rw [hbk] at hr;exact⟨none,_,hr,hdone _ _ (Nat.le_refl _) (hI.putObj _ i2 (by omega) l2 rfl) ((World.putObj_heap_other (by omega)).trans d2)⟩
   · have hr:=run_endLoop (P:=Tryz.prog) l2 (by rw [hbk];simp);rw [hbk] at hr;exact⟨some c,_,hr,hstop _ c k _ (Nat.le_refl _) hk ((hIx c).putObj _ i2 (by omega) l2 rfl) ((World.putObj_heap_other (by omega)).trans d2)⟩
open Go.RowKit
open Le (Mm Qh Qo)
open Go.Shelf
attribute [local go_sem] Oper.semAt_some
theorem mm_grown {w W W':World} {bs:List (Nat×Nat×List Value)} {row:Option Nat} {B:Nat} (h:Mm [] w W bs) (hg:W.grownBy W' row) (hB:w.heap.size≤B) (hr:∀r,row=some r→B≤r∧∃o:Obj,W.heap[r]?=some o∧o.isCells=false):Mm [] w W' bs:=
 ⟨Vi.kept_kept h.kept hg hB (fun r e=>(hr r e).1),fun x hx=>Vi.blk_grown (h.blk x hx) hg (fun r e=>(hr r e).2),h.own,h.nd⟩
theorem _root_.Go.Proofs.YtcfflbafclmheaaGreatDoor.Vi.wpStoreKL {ops:Array Oper} {rest:List Oper} {op:Oper} {a:Act} {w w0:World} {Q:Exit→Act→World→Prop} {bs:List (Nat×Nat×List Value)} (x y:Operand) (hgd:op.guard=none) (ho:op.op= .store 4 x y) (hd:op.dst=none) (b i:Nat) (v:Bool) (hx:a.eval x=P0 b) (hy:a.eval y= .bool v) (hM:Mm [] w0 w bs) {u:Value} (hi:bs[i]?=some (b,4,[u]))
  (h:∀W,Mm [] w0 W (bs.set i (b,4,[.bool v]))→Kept [b] w W→wpList Tryz.prog ops Q rest a W):wpList Tryz.prog ops Q (op::rest) a w:=
 wpList_plain hgd fun K hK=>by
  have hB:=hM.at i _ hi;have hst:=Vi.storeVar1 Vi.size4 hB (off:=0) (by simp) (.bool v) rfl rfl;unfold Oper.wp execOp;simp only [ho,hx,hy,Instr.storeAt,Instr.sureAddr,Sem.run_bind,Sem.run_pure,Result.andThen_ok,hst];refine hK _ _ ?_;rw [hd];have hk:Kept [b] w (w.setCell ⟨b,0,none⟩ (.bool v)):=(Kept.refl _ _).setCell (by simp) _;exact h _ (hM.mut i hi hk (hB.set _)) hk
theorem ready35 (ao:Option Addr) (j:Job) (v:Vi.Vw) (w:World):Calls Tryz.prog 35 #[.pointer ao,Qd (Qf j),Qd (Vi.vwC v)] w fun e w'=>∃c1 c2 c3,e= .returned (fnV 93 #[P0 c1,P0 c2,P0 c3])∧Blk w' c1 32 [.pointer ao]∧Blk w' c2 23 (Qf j)∧Blk w' c3 29 (Vi.vwC v)∧Kept [] w w':=by
 have hm:=hmf;have M:Hid (Mm [] w w []):=hide Mm.init;go_enter Tryz.func35,Tryz.ntmps35
 go_wp2_with (first |(refine wpBoxP rfl (.tmp 0) rfl ao rfl ?_;intro W1 b1 e1 B1 K1;replace M:=hide ((Qa M).new e1 B1 K1);clear e1 B1 K1;refine Stp.go ?_))
 constructor
 go_wp2_with (first |(refine Qp rfl (.tmp 1) rfl (Qf j) rfl ?_;intro W2 b2 e2 B2 K2;replace M:=hide ((Qa M).new e2 B2 K2);clear e2 B2 K2;refine Stp.go ?_))
 constructor
 go_wp2_with (first |(refine Qp rfl (.tmp 2) rfl (Vi.vwC v) rfl ?_;intro W3 b3 e3 B3 K3;replace M:=hide ((Qa M).new e3 B3 K3);clear e3 B3 K3;refine Stp.go ?_))
 constructor
 go_wp2_with fail
 go_ret
 exact⟨b1,b2,b3,rfl,(Qa M).at 0 _ rfl,(Qa M).at 1 _ rfl,(Qa M).at 2 _ rfl,(Qa M).kept⟩
def mall (o:Option Dv.Dev) (j:Job) (v:Vi.Vw):Bool:=decide (0<(rl o j v).length)&&(rl o j v).all (fun x=>x.2)
theorem res19 (w:World) (z:Nat) (b:Bool) (tmps:Array Value) (h4:tmps[6]?.getD undef=P0 z) (hb:Blk w z 4 [.bool b]):(results Tryz.f19 tmps).run Tryz.prog w= .ok (.bool b) w:=by
 have hc:=Qb hb 0 _ rfl;simp [results,Tryz.results19,h4,asAddr,go_sem,hc]
theorem all_in (p:Value) (o:Option Dv.Dev) (j:Job) (v:Vi.Vw) (w:World) (h:Dq w p o) (hF:Vi.First w) (hv:v.ms.length=8):CallsIn Fence.wide 3 Tryz.prog 19 #[p,Qd (Qf j),Qd (Vi.vwC v)] w fun e w'=>e= .returned (.bool (mall o j v))∧Kept [] w w':=by
 obtain⟨ao,rfl⟩:=h.ptr;have hFw:=Vi.wideF;have HD:=hide h;have HF:=hide hF;have HV:=hide hv;have HL:=hide (Vi.Qk hv);unfold mall;obtain⟨S,hS⟩:∃S,S=rl o j v:=⟨_,rfl⟩;rw [← hS];have HSS:=hide hS;clear h hF hv hS;refine callsIn_of_wp_marks Tryz.func19 rfl trivial ?_ rfl;simp only [Tryz.ntmps19,List.size_toArray,List.length_cons,List.length_nil,Nat.reduceAdd,Nat.reduceSub,Array.replicate_succ,Array.replicate_zero,List.push_toArray,List.append_toArray,List.nil_append,List.cons_append];rw [wpIn_wide];have M:Hid (Mm [] w w []):=hide Mm.init;go_wp2_with (first |(refine Qp rfl (.tmp 1) rfl (Qf j) rfl ?_;intro W1 b1 e1 B1 K1;replace M:=hide ((Qa M).new e1 B1 K1);clear e1 B1 K1;refine Stp.go ?_))
 constructor
 go_wp2_with (first |(refine Qp rfl (.tmp 2) rfl (Vi.vwC v) rfl ?_;intro W2 b2 e2 B2 K2;replace M:=hide ((Qa M).new e2 B2 K2);clear e2 B2 K2;refine Stp.go ?_))
 constructor
 go_wp2_with (first |(refine Qv ([.bool false]) Vi.zero4 6 rfl rfl rfl ?_;intro W3 b3 e3 B3 K3;replace M:=hide ((Qa M).new e3 B3 K3);clear e3 B3 K3;refine Stp.go ?_))
 constructor
 go_wp2_with (first |(refine Qv ([.bool false]) Vi.zero4 7 rfl rfl rfl ?_;intro W4 b4 e4 B4 K4;replace M:=hide ((Qa M).new e4 B4 K4);clear e4 B4 K4;refine Stp.go ?_))
 constructor
 go_wp2_with (first |(refine Qo Vi.size4 rfl (.tmp 7) (.const (.bool false)) rfl rfl b4 0 3 (.bool false) ⟨rfl,rfl⟩ rfl rfl (Qa M) rfl (by decide) ?_;intro W5 N5;replace M:Hid (Mm [] w W5 [(b1,23,Qf j),(b2,29,Vi.vwC v),(b3,4,[.bool false]),(b4,4,[.bool false])]):=hide N5;clear N5;refine Stp.go ?_))
 constructor
 go_wp2_with (first |(refine Qg Zv rfl (.tmp 4) rfl b1 0 rfl (Qf j) rfl ((Qa M).at 0 _ rfl).range ?_;refine Stp.go ?_))
 constructor
 go_wp2_with (first |(refine Qg Vi.Qn rfl (.tmp 5) rfl b2 0 rfl (Vi.vwC v) (Qa HL) ((Qa M).at 1 _ rfl).range ?_;refine Stp.go ?_))
 constructor
 go_wp2_with (first |(go_at_call 35;refine(ready35 ao j v _).mono ?_;rintro e V ⟨c1,c2,c3,rfl,C1,C2,C3,K1⟩;have HC1:=hide C1;have HC2:=hide C2;have HC3:=hide C3;replace M:=hide ((Qa M).step K1);clear C1 C2 C3 K1;refine Stp.go ?_))
 constructor
 go_wp2_with fail
 rw [← wpIn_wide (n:=3)];have HW:Hid (w.heap.size≤V.heap.size):=(Qa M).kept.size;refine wp_rangeR c1 c2 c3 ao o j v S (Qa HSS) rfl rfl (Qa HC1) (Qa HC2) (Qa HC3) ((Qa HD).kept (Qa M).kept) ((Qa HF).kept (Qa M).kept) (Qa HV)
  (fun pre W=>(∀x∈pre,x.2=true)∧Mm [] w W [(b1,23,Qf j),(b2,29,Vi.vwC v),(b3,4,[.bool false]),(b4,4,[.bool (decide (0<pre.length))])]) (fun c pre W=>c= .ret∧(∃x∈S,x.2=false)∧∃s,Mm [] w W [(b1,23,Qf j),(b2,29,Vi.vwC v),(b3,4,[.bool false]),(b4,4,[.bool s])]) ?hI ?hIx ⟨by simp,Qa M⟩
  (fun k x a' W=>((∀y∈S.take k,y.2=true)∧Mm [] w W [(b1,23,Qf j),(b2,29,Vi.vwC v),(b3,4,[.bool false]),(b4,4,[.bool (decide (0<k))])])∧a'= { tmps:= #[.pointer ao,Qd (Qf j),Qd (Vi.vwC v),undef,P0 b1,P0 b2,P0 b3,P0 b4,undef,.bool x.2,.pointer ao,Qd (Qf j),Qd (Vi.vwC v),fnV 93 #[P0 c1,P0 c2,P0 c3],.int .i64 x.1,.bool x.2,undef,undef,undef],defers:= [] }) ?hFr ?assign ?body ?done ?stop
 case hI=>
  intro s A B row hs hg hr;exact⟨hs.1,mm_grown hs.2 hg (Qa HW) hr⟩
 case hIx=>
  rintro c s A B row ⟨h1,h2,s',h3⟩ hg hr;exact⟨h1,h2,s',mm_grown h3 hg (Qa HW) hr⟩
 case hFr=>
  intro k x a' s A B row hs hg hr;exact⟨⟨hs.1.1,mm_grown hs.1.2 hg (Qa HW) hr⟩,hs.2⟩
 case assign=>
  intro l k x W K hI hx hK;simp only [List.zip_toArray,List.zip_cons_cons,List.zip_nil_right,List.foldl_toArray,List.foldl_cons,List.foldl_nil,List.setIfInBounds_toArray,List.set_cons_succ,List.set_cons_zero];have hlen:(S.take k).length=k:=by rw [List.length_take];have:=(List.getElem?_eq_some_iff.1 hx).1;omega
  rw [hlen] at hI
  gi_wp2_with fail
  exact hK _ _ (Kept.refl _ _) ⟨hI,rfl⟩
 case body=>
  rintro l k x a' W hx ⟨⟨hA,hM⟩,rfl⟩;have hk:=(List.getElem?_eq_some_iff.1 hx).1;have hlen:(S.take (k+1)).length=k+1:=by rw [List.length_take];omega
  have HLN:=hide hlen;have HX:=hide hx;have HA:=hide hA;have HI:=hide hM;clear hA hM hlen hx hk;obtain⟨xn,xb⟩:=x;cases xb with
  | false=>
    gi_wp2_with (
      first
      |(refine Vi.ZQ (by rintro ⟨a,w,h⟩;exact h) _ _ _ (Vi.noDefer_spec (by kernel_rfl)) ?_;refine Stp.go ?_))
    constructor
    go_wp2_with fail
    gi_wp2_with (
      first
      |(refine Vi.ZQ (by rintro ⟨a,w,h⟩;exact h) _ _ _ (Vi.noDefer_spec (by kernel_rfl)) ?_;refine Stp.go ?_))
    constructor
    go_wp2_with (first |(refine Vi.wpStoreKL (.tmp 6) (.const (.bool false)) rfl rfl rfl b3 2 false rfl rfl (Qa HI) rfl ?_;intro W9 M9 K9;have HM9:=hide M9;have HK9:=hide K9;clear M9 K9;refine Stp.go ?_))
    constructor
    go_wp2_with fail
    gi_wp2_with fail
    exact⟨(Vi.keep34 (B:=V.heap.size) (Qa HK9) ((Qa HI).at 2 _ rfl) (.inr rfl)).1,rfl,⟨(xn,false),List.mem_of_getElem? (Qa HX),rfl⟩,_,Qa HM9⟩
  | true=>
    gi_wp2_with (
      first
      |(refine Vi.ZQ (by rintro ⟨a,w,h⟩;exact h) _ _ _ (Vi.noDefer_spec (by kernel_rfl)) ?_;refine Stp.go ?_))
    constructor
    go_wp2_with fail
    gi_wp2_with (
      first
      |(refine Vi.ZQ (by rintro ⟨a,w,h⟩;exact h) _ _ _ (Vi.noDefer_spec (by kernel_rfl)) ?_;refine Stp.go ?_))
    constructor
    go_wp2_with (first |(refine Vi.wpStoreKL (.tmp 7) (.const (.bool true)) rfl rfl rfl b4 3 true rfl rfl (Qa HI) rfl ?_;intro W9 M9 K9;have HM9:=hide M9;have HK9:=hide K9;clear M9 K9;refine Stp.go ?_))
    constructor
    go_wp2_with fail
    obtain⟨q1,q2⟩:=Vi.keep34 (B:=V.heap.size) (Qa HK9) ((Qa HI).at 3 _ rfl) (.inr rfl);refine⟨q1,q2,?_,?_⟩
    · intro y hy;rw [List.take_add_one,Qa HX] at hy;rcases List.mem_append.1 hy with hy | hy
      · exact Qa HA y hy
      · simp at hy;subst hy;rfl
    · rw [Qa HLN];exact Qa HM9
 case done=>
  rintro E W hE ⟨hA,hM⟩ hK;have hcS:=Qb (hM.at 3 _ rfl) 0 _ rfl;have HA:=hide hA;have HI:=hide hM;have HDK:=hide hK;have HDG:Hid (w.heap.size≤E):=Nat.le_trans (Qa HW) hE;have HNE:Hid (∀b T vs,Blk W b T vs→E≠b):=fun b T vs hb e=>by
    subst e;unfold Blk at hb;rw [hK] at hb;cases hb
  clear hA hM hK;go_wp2_with (first |(refine Vi.wpStoreKL (.tmp 6) (.tmp 18) rfl rfl rfl b3 2 (decide (0<S.length)) rfl rfl (Qa HI) rfl ?_;intro W9 M9 K9;have HM9:=hide M9;have HDK9:Hid (W9.heap[E]?=some (.deferred (some []))):=K9.heap (Qa HDK) (by simpa using Qa HNE b3 4 _ ((Qa HI).at 2 _ rfl));clear M9 K9;refine Stp.go ?_))
  constructor
  go_wp2_with fail
  have hgr:=grownBy_putObj' W9 E (Obj.deferred none);have hM2:=mm_grown (Qa HM9) hgr (Nat.le_refl _) (fun r e=>by cases e;exact⟨Qa HDG,_,Qa HDK9,rfl⟩);refine(show LeavesInM Fence.wide 3 Tryz.prog Tryz.f19 _ _ [{ target:= .collected E,args:= #[] }] .returning W9 from ?_);refine⟨by simp,.inl ⟨_,_,rfl,run_takeDeferred (Qa HDK9),?_⟩⟩;refine⟨_,res19 _ b3 _ _ rfl (hM2.at 2 _ rfl),?_,hM2.kept⟩;have:S.all (fun x=>x.2)=true:=by rw [List.all_eq_true];exact Qa HA
  rw [this,Bool.and_true]
 case stop=>
  rintro E c k W hE hk ⟨rfl,⟨x,hx,hxb⟩,s,hM⟩ hK;have HI:=hide hM;have HDK:=hide hK;have HDG:Hid (w.heap.size≤E):=Nat.le_trans (Qa HW) hE;have HXS:Hid (S.all (fun x=>x.2)=false):=by
    show _=_;rw [List.all_eq_false];exact⟨x,hx,by simp [hxb]⟩
  clear hM hK hx hxb hk;rw [wpIn_wide];go_wp2_with fail
  have hgr:=grownBy_putObj' W E (Obj.deferred none);have hM2:=mm_grown (Qa HI) hgr (Nat.le_refl _) (fun r e=>by cases e;exact⟨Qa HDG,_,Qa HDK,rfl⟩);refine(show LeavesInM Fence.wide 3 Tryz.prog Tryz.f19 _ _ [{ target:= .collected E,args:= #[] }] .returning W from ?_);refine⟨by simp,.inl ⟨_,_,rfl,run_takeDeferred (Qa HDK),?_⟩⟩;refine⟨_,res19 _ b3 _ _ rfl (hM2.at 2 _ rfl),?_,hM2.kept⟩;rw [Qa HXS,Bool.and_false]
theorem all19 (p:Value) (o:Option Dv.Dev) (j:Job) (v:Vi.Vw) (w:World) (h:Dq w p o) (hF:Vi.First w) (hv:v.ms.length=8):Calls Tryz.prog 19 #[p,Qd (Qf j),Qd (Vi.vwC v)] w fun e w'=>e= .returned (.bool (mall o j v))∧Kept [] w w':=callsIn_wide.1 (all_in p o j v w h hF hv)
end Go.Proofs.YtcfflbafclmheaaGreatDoor
