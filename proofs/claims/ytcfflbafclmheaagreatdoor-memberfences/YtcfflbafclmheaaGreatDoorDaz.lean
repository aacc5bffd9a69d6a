/-
  Texts of the walks of member, shortened.
-/
import Derived.Test.YtcfflbafclmheaaGreatDoorDay
set_option maxRecDepth 100000
set_option maxHeartbeats 100000000
set_option linter.unusedSimpArgs false
namespace Go.Proofs.YtcfflbafclmheaaGreatDoor
open Go.RowKit
open Le (Mm Qh Qo)
structure Fits (D:Dv.Dev) (J:Ar.Job):Prop where
 ok:D.Ok
 may:J.may=true
 sec:J.sectors.1≤D.S.length
 n:J.n=D.N
theorem job_b {J:Ar.Job} (h:J.may=true):J.sectors.2=0∧2≤J.n∧J.n≤8∧9+J.n≤J.sectors.1:=by
 have h9:=h;simp only [Ar.Job.may,decide_eq_true_eq] at h9;have h1:0≤J.n*(2*J.l):=Int.mul_nonneg (by omega) (by omega);have e:J.sectors=(J.p*2+(J.n*(1+2*J.l)+9),0):=by unfold Ar.Job.sectors Ar.Job.L;rw [if_pos h]
 have e2:J.n*(1+2*J.l)=J.n+J.n*(2*J.l):=by rw [Int.mul_add,Int.mul_one]
 rw [e];refine⟨rfl,by omega,by omega,?_⟩;simp only;omega
theorem qa_t (e:Int):qa true e=0:=rfl
theorem qa_f (e:Int):qa false e=e:=rfl
theorem Fits.q1 {D:Dv.Dev} {J:Ar.Job} (h:Fits D J):qa (decide (0<Qs (some D))) 1=0:=by
 have:=h.ok.s0;rw [show decide (0<Qs (some D))=true from decide_eq_true (by show 0<D.S.length;omega)];rfl
theorem Fits.q2 {D:Dv.Dev} {J:Ar.Job} (h:Fits D J):qa (Qu (some D) J) 2=0:=by
 have hb:=job_b h.may;have h1:=h.sec;have h2:=h.n;have:Qu (some D) J=true:=by
  unfold Qu;rw [decide_eq_true hb.1,show decide (J.sectors.1≤(Qs (some D):Int))=true from decide_eq_true h1,show decide (J.n≤(oNodes (some D):Int))=true from decide_eq_true (by show J.n≤(D.N:Int);omega)];rfl
 rw [this];rfl
theorem if_ne0 {α:Type} {x:Int} (h:x=0) (a b:α):(if x≠0 then a else b)=b:=if_neg (fun z=>z h)
theorem if_ne1 {α:Type} {x:Int} (h:¬x=0) (a b:α):(if x≠0 then a else b)=a:=if_pos h
theorem if_nn {α:Type} {p:Prop} [Decidable p] (h:p) (a b:α):(if ¬p then a else b)=b:=if_neg (fun z=>z h)
theorem if_n1 {α:Type} {p:Prop} [Decidable p] (h:¬p) (a b:α):(if ¬p then a else b)=a:=if_pos h
theorem first0_z (l:List Int):first0 (0::l)=first0 l:=by simp [first0]
theorem hasN_of {D:Dv.Dev} {J:Ar.Job} (h:Fits D J) {n:Int} (h0:0≤n) (h1:n<J.n):Dv.hasN D.N n=true:=decide_eq_true (by have:=h.n;omega)
theorem epoch_of {D:Dv.Dev} {J:Ar.Job} (h:Fits D J) {n:Int} (h0:0≤n) (h1:n<J.n):(D.epoch n).1=D.ep n:=by
 unfold Dv.Dev.epoch;rw [if_pos (hasN_of h h0 h1)]
theorem asks_node {D:Dv.Dev} {J:Ar.Job} (h:Fits D J) {n ep:Int} {more:List Int} (hn:n<0∨J.n≤n):first0 (asks (some D) J n ep more)=2:=by
 unfold asks;rw [h.q1,h.q2,show Qt J n=false by unfold Qt;rw [Bool.and_eq_false_iff];rcases hn with h1 | h1;exact Or.inl (decide_eq_false (by omega));exact Or.inr (decide_eq_false (by omega)),qa_f];simp [first0]
theorem node_t {J:Ar.Job} {n:Int} (h0:0≤n) (h1:n<J.n):Qt J n=true:=by unfold Qt;rw [decide_eq_true h0,decide_eq_true h1];rfl
theorem asks_ep {D:Dv.Dev} {J:Ar.Job} (h:Fits D J) {n ep:Int} {more:List Int} (h0:0≤n) (h1:n<J.n) (he:ep<1∨(D.epoch n).1<ep):first0 (asks (some D) J n ep more)=2:=by
 unfold asks;rw [h.q1,h.q2,node_t h0 h1,qa_t,show Qx (some D) n ep=false by unfold Qx;rw [Bool.and_eq_false_iff];rcases he with h2 | h2;exact Or.inl (decide_eq_false (by omega));exact Or.inr (decide_eq_false (by show ¬ep≤(D.epoch n).1;omega)),qa_f];simp [first0]
theorem asks_more {D:Dv.Dev} {J:Ar.Job} (h:Fits D J) {n ep:Int} {more:List Int} (h0:0≤n) (h1:n<J.n) (he:1≤ep∧ep≤(D.epoch n).1):first0 (asks (some D) J n ep more)=first0 (more++ [if ep<(D.epoch n).1 then 8 else 0]):=by
 have hf:qa (!QF (some D) n ep) 8=if ep<(D.epoch n).1 then 8 else 0:=by
  show qa (!(D.fenced n ep)) 8=_;unfold Dv.Dev.fenced;rw [hasN_of h h0 h1,Bool.true_and,epoch_of h h0 h1];by_cases h2:ep<D.ep n
  · rw [decide_eq_true h2,if_pos h2];rfl
  · rw [decide_eq_false h2,if_neg h2];rfl
 unfold asks;rw [hf,h.q1,h.q2,node_t h0 h1,qa_t,show Qx (some D) n ep=true by unfold Qx;rw [decide_eq_true he.1,show decide (ep≤(oEpoch (some D) n).1)=true from decide_eq_true he.2];rfl,qa_t];simp [first0]
theorem asks0 {D:Dv.Dev} {J:Ar.Job} (h:Fits D J) (n ep:Int):first0 (asks (some D) J n ep [])=rwho D J n ep:=by
 unfold rwho;by_cases h1:n<0∨J.n≤n
 · rw [if_pos h1];exact asks_node h h1
 · rw [if_neg h1];by_cases h2:ep<1∨(D.epoch n).1<ep
   · rw [if_pos h2];exact asks_ep h (by omega) (by omega) h2
   · rw [if_neg h2,asks_more h (by omega) (by omega) (by omega)];by_cases h3:ep<(D.epoch n).1
     · rw [if_pos h3];rfl
     · rw [if_neg h3];rfl
theorem asksO {D:Dv.Dev} {J:Ar.Job} (h:Fits D J) (n ep q:Int):first0 (asks (some D) J n ep [qa (Qt J q) 2,qa (decide (q≠n)) 2])=if n<0∨J.n≤n∨q<0∨J.n≤q∨n=q then 2 else rwho D J n ep:=by
 by_cases h1:n<0∨J.n≤n
 · rw [if_pos (show n<0∨J.n≤n∨q<0∨J.n≤q∨n=q by omega)];exact asks_node h h1
 · by_cases h2:ep<1∨(D.epoch n).1<ep
   · rw [asks_ep h (by omega) (by omega) h2];have e:rwho D J n ep=2:=by unfold rwho;rw [if_neg h1,if_pos h2]
     rw [e];split <;> rfl
   · rw [asks_more h (by omega) (by omega) (by omega)];have e:rwho D J n ep=if ep<(D.epoch n).1 then 8 else 0:=by unfold rwho;rw [if_neg h1,if_neg h2]
     rw [e];by_cases h3:q<0∨J.n≤q
     · rw [if_pos (show n<0∨J.n≤n∨q<0∨J.n≤q∨n=q by omega),show Qt J q=false by unfold Qt;rw [Bool.and_eq_false_iff];rcases h3 with h4 | h4;exact Or.inl (decide_eq_false (by omega));exact Or.inr (decide_eq_false (by omega))];rfl
     · rw [node_t (by omega) (by omega)];by_cases h4:n=q
       · rw [if_pos (show n<0∨J.n≤n∨q<0∨J.n≤q∨n=q by omega),show decide (q≠n)=false from decide_eq_false (fun z=>z h4.symm)];rfl
       · rw [if_neg (show ¬(n<0∨J.n≤n∨q<0∨J.n≤q∨n=q) by omega),show decide (q≠n)=true from decide_eq_true (fun z=>h4 z.symm)];by_cases h5:ep<(D.epoch n).1
         · rw [if_pos h5];rfl
         · rw [if_neg h5];rfl
theorem mview_eq {D:Dv.Dev} {J:Ar.Job} (h:Fits D J):mview (some D) J=oV D:=by
 unfold mview;rw [h.q1,h.q2];rfl
theorem lease_eq {D:Dv.Dev} {J:Ar.Job} (h:Fits D J) (n:Int):mlease (some D) J n=rlease D J n:=by
 unfold mlease rlease;rw [h.q1,h.q2,first0_z,first0_z];by_cases h1:n<0∨J.n≤n
 · rw [if_pos h1,show Qt J n=false by unfold Qt;rw [Bool.and_eq_false_iff];rcases h1 with h4 | h4;exact Or.inl (decide_eq_false (by omega));exact Or.inr (decide_eq_false (by omega))];rfl
 · have hb:=job_b h.may;have hs:=h.sec;have e:(D.read (1+n)).1=D.S.getD (1+n.toNat) Dv.nought:=by
    unfold Dv.Dev.read;rw [if_pos (show Dv.hasS D.S.length (1+n) 1=true from decide_eq_true (by omega)),show(1+n).toNat=1+n.toNat by omega]
   rw [if_neg h1,node_t (by omega) (by omega),e];rfl
theorem memF_eq:∀(l:List (Bool×Int)) (i:Nat),Vi.memF i l=((List.range l.length).filter (fun j=>(l.getD j (false,0)).1)).map (fun j=>(i+j,(l.getD j (false,0)).2))
 | [],_=>rfl
 | m::l,i=>by
  rw [Vi.memF,memF_eq l (i+1),List.length_cons,List.range_succ_eq_map,List.filter_cons,List.filter_map,List.getD_cons_zero];have e:∀L:List Nat,L.map (fun j=>(i+1+j,(l.getD j (false,0)).2))=(L.map Nat.succ).map (fun j=>(i+j,((m::l).getD j (false,0)).2)):=by
   intro L;rw [List.map_map];refine List.map_congr_left fun j _=> ?_;show(i+1+j,_)=(i+(j+1),_);rw [List.getD_cons_succ,show i+1+j=i+(j+1) by omega]
  have e2:(List.filter ((fun j=>((m::l).getD j (false,0)).1)∘Nat.succ) (List.range l.length))=List.filter (fun j=>(l.getD j (false,0)).1) (List.range l.length):=by
   congr 1
  rw [e2,e];cases m.1 with
  | true=>simp
  | false=>simp
theorem list_eq {v:Vi.Vw} (hm:v.may=true) (hl:v.ms.length=8):v.list=(rin v 8).map (fun i:Nat=>(i,(v.mem (i:Int)).2)):=by
 unfold Vi.Vw.list;rw [hm,if_pos rfl,memF_eq,hl];unfold rin Vi.Vw.mem;simp only [Int.toNat_natCast,Nat.zero_add]
theorem rl_eq {D:Dv.Dev} {J:Ar.Job} (h:Fits D J) {v:Vi.Vw} (hm:v.may=true) (hl:v.ms.length=8):rl (some D) J v=(rin v 8).map (fun i:Nat=>(i,rready D J v i)):=by
 unfold rl;rw [h.q1,h.q2,if_pos (show first0 [0,0]=0 from rfl),list_eq hm hl,List.map_map];refine List.map_congr_left fun i _=> ?_;show(i,mready (some D) J i (v.mem (i:Int)).2 v.nu)=_;unfold mready rready;rw [lease_eq h]
theorem all_eq {D:Dv.Dev} {J:Ar.Job} (h:Fits D J) {v:Vi.Vw} (hm:v.may=true) (hl:v.ms.length=8):mall (some D) J v=rall D J v:=by
 unfold mall rall;rw [rl_eq h hm hl,List.length_map,List.all_map];rfl
theorem mem_no {v:Vi.Vw} (hm:v.may=true) (hl:v.ms.length=8) {n:Int} (h0:0≤n) (h8:n<8) (hi:(v.mem n).1=false):(v.mem n).2=0:=by
 have h9:=Vi.may_mem hm hl h0 h8;unfold Vi.Zy at h9;rw [hi] at h9;exact of_decide_eq_true h9
theorem join_eq {D:Dv.Dev} {J:Ar.Job} (h:Fits D J) (n ep:Int):mjoin D J n ep=rjoin D J n ep:=by
 have hb:=job_b h.may;unfold mjoin mcall rjoin;rw [asks0 h];by_cases h1:rwho D J n ep=0
 · rw [if_pos h1,if_ne0 h1];obtain⟨g0,g1,g2,g3⟩:=rwho_0 h1;have hep:=epoch_le h.ok n;unfold mchg;by_cases h2:(oV D).2=0
   · rw [if_pos h2,if_ne0 h2];have hmay:(oV D).1.may=true:=getV_may _ h2;have hlen:(oV D).1.ms.length=8:=getV_len _;obtain⟨v,hv⟩:∃v,v=(oV D).1:=⟨_,rfl⟩;rw [← hv] at hmay hlen⊢;have hj:Vi.joinV v n ep=if ep≤(v.mem n).2 then (Vi.zv,7) else Vi.nextV v n n (true,ep):=by
       unfold Vi.joinV;rw [hmay,show Vi.isNo n=true from decide_eq_true (by omega),show Vi.isEp ep=true from decide_eq_true (by omega)];rfl
     rw [hj];by_cases h3:ep≤(v.mem n).2
     · have hi:(v.mem n).1=true:=by
         cases hq:(v.mem n).1 with
         | true=>rfl
         | false=>have:=mem_no hmay hlen g0 (by omega) hq;omega
       rw [if_pos h3,if_pos (show(v.mem n).1=true∧ep≤(v.mem n).2 from⟨hi,h3⟩)];rfl
     · rw [if_neg h3,if_neg (show ¬((v.mem n).1=true∧ep≤(v.mem n).2) from fun z=>h3 z.2)];unfold Vi.nextV;by_cases h4:v.nu=4611686018427387904
       · rw [if_pos h4,if_pos h4];rfl
       · rw [if_neg h4,if_neg h4];rfl
   · rw [if_neg h2,if_ne1 h2]
 · rw [if_neg h1,if_ne1 h1]
theorem open_eq {D:Dv.Dev} {J:Ar.Job} (h:Fits D J) (n ep:Int):mopen D J n ep=ropen D J n ep:=by
 have hb:=job_b h.may;unfold mopen mcall ropen;rw [asks0 h];by_cases h1:rwho D J n ep=0
 · rw [if_pos h1,if_ne0 h1];obtain⟨g0,g1,g2,g3⟩:=rwho_0 h1;unfold mchg;by_cases h2:(oV D).2=0
   · rw [if_pos h2,if_ne0 h2];have hmay:(oV D).1.may=true:=getV_may _ h2;have hlen:(oV D).1.ms.length=8:=getV_len _;obtain⟨v,hv⟩:∃v,v=(oV D).1:=⟨_,rfl⟩;rw [← hv] at hmay hlen⊢;unfold mopn opQ;rw [all_eq h hmay hlen];cases hop:v.op with
     | true=>rfl
     | false=>
      rw [show (!false)=true from rfl,qa_t,first0_z,if_neg (show ¬(false=true) by simp)];have hno:Vi.isNo n=true:=decide_eq_true (by omega);have his:(decide (v.fd=n)&&v.is n ep)=decide (v.fd=n∧(v.mem n).1=true∧(v.mem n).2=ep):=by
        unfold Vi.Vw.is Vi.Vw.isIn;rw [hmay,hno,Bool.true_and,Bool.true_and,Bool.eq_iff_iff];simp
      rw [his];by_cases h4:v.fd=n∧(v.mem n).1=true∧(v.mem n).2=ep
      · rw [decide_eq_true h4,qa_t,first0_z,if_nn h4];cases hr:rall D J v with
        | false=>rfl
        | true=>
         have hnf:v≠Vi.fv:=by
          intro e;have h5:=h4.2.1;rw [e] at h5;have h6:=mem_at (v:=Vi.fv) rfl n.toNat (by omega);obtain⟨m,hm,hmm,_⟩:=h6;rw [show ((n.toNat:Nat):Int)=n by omega] at hmm;rw [hmm] at h5;have h7:=List.mem_of_getElem? hm;have:m=(false,0):=by simpa [Vi.fv,Vi.no8] using h7
          rw [this] at h5;cases h5
         have ho:Vi.openV v=(⟨v.nu,true,v.fd,v.ms⟩,0):=by
          unfold Vi.openV;rw [hmay,show decide (v≠Vi.fv)=true from decide_eq_true hnf,hop];rfl
         rw [ho];rfl
      · rw [decide_eq_false h4,qa_f,if_n1 h4];rfl
   · rw [if_neg h2,if_ne1 h2]
 · rw [if_neg h1,if_ne1 h1]
theorem fence_ok {D:Dv.Dev} {J:Ar.Job} (h:Fits D J) {n ep q ab:Int} (h0:0≤n) (h1:n<J.n) (he:ep=(D.epoch n).1) (q0:0≤q) (q1:q<J.n) (ha:0≤ab∧ab≤2147483646):(D.fence n ep q ab).1=0:=by
 have hep:=epoch_le h.ok n;rw [epoch_of h h0 h1] at he hep;unfold Dv.Dev.fence;have:D.ref n ep (Dv.hasN D.N q&&decide (0≤ab∧ab≤2147483646))=0:=by
  unfold Dv.Dev.ref;rw [hasN_of h q0 q1,decide_eq_true ha,if_pos ⟨rfl,hasN_of h h0 h1,by omega,by omega⟩,if_neg (by omega)]
 rw [if_pos this]
theorem out_eq {D:Dv.Dev} {J:Ar.Job} (h:Fits D J) (n ep q:Int) (hm6:∀k:Nat,k<8→((oV D).1.mem (k:Int)).2≤2147483646):mOut D J n ep q=rout D J n ep q:=by
 have hb:=job_b h.may;unfold mOut mcall rout;rw [asksO h];by_cases h0:n<0∨J.n≤n∨q<0∨J.n≤q∨n=q
 · rw [if_pos h0,if_pos h0];rfl
 rw [if_neg h0,if_neg h0];by_cases h1:rwho D J n ep=0
 · rw [if_pos h1,if_ne0 h1];obtain⟨g0,g1,g2,g3⟩:=rwho_0 h1;unfold mchg;by_cases h2:(oV D).2=0
   · rw [if_pos h2,if_ne0 h2];have hmay:(oV D).1.may=true:=getV_may _ h2;have hlen:(oV D).1.ms.length=8:=getV_len _;have hq6:=hm6 q.toNat (by omega);rw [show ((q.toNat:Nat):Int)=q by omega] at hq6;obtain⟨v,hv⟩:∃v,v=(oV D).1:=⟨_,rfl⟩;rw [← hv] at hmay hlen hq6⊢;have hno:Vi.isNo n=true:=decide_eq_true (by omega);have hnq:Vi.isNo q=true:=decide_eq_true (by omega);have hq0:0≤(v.mem q).2:=by
       have h9:=Vi.may_mem hmay hlen (n:=q) (by omega) (by omega);unfold Vi.Zy Vi.isEp at h9;split at h9 <;> simp at h9 <;> omega
     have his:v.is n ep=decide ((v.mem n).1=true∧(v.mem n).2=ep):=by
       unfold Vi.Vw.is Vi.Vw.isIn;rw [hmay,hno,Bool.true_and,Bool.true_and,Bool.eq_iff_iff];simp
     by_cases h4:(v.mem n).1=true∧(v.mem n).2=ep
     · cases hqi:(v.mem q).1 with
       | false=>
        have ho:Vi.outV v n q=(Vi.zv,6):=by
          unfold Vi.outV Vi.Vw.isIn;rw [hmay,hno,hnq,show decide (n≠q)=true from decide_eq_true (by omega),h4.1,hqi];rfl
        have hmo:mout D v n ep q=((Vi.zv,6),D):=by
          unfold mout;rw [his,decide_eq_true h4,if_pos rfl,ho];rfl
        rw [hmo,if_n1 (show ¬((v.mem n).1=true∧(v.mem n).2=ep∧false=true) from fun z=>by simp at z)];rfl
       | true=>
        have ho:Vi.outV v n q=Vi.nextV v n q (false,0):=by
          unfold Vi.outV Vi.Vw.isIn;rw [hmay,hno,hnq,show decide (n≠q)=true from decide_eq_true (by omega),h4.1,hqi];rfl
        rw [if_nn (show(v.mem n).1=true∧(v.mem n).2=ep∧true=true from⟨h4.1,h4.2,rfl⟩)];by_cases h5:v.nu=4611686018427387904
        · have hmo:mout D v n ep q=((Vi.zv,5),D):=by
           unfold mout;rw [his,decide_eq_true h4,if_pos rfl,ho];unfold Vi.nextV;rw [if_pos h5];rfl
          rw [hmo,if_pos h5];rfl
        · have hf:=fence_ok h g0 g1 g3 (q:=q) (ab:=(v.mem q).2) (by omega) (by omega) ⟨hq0,hq6⟩;have hmo:mout D v n ep q=((⟨v.nu+1,false,n,v.ms.set q.toNat (false,0)⟩,0),(D.fence n ep q (v.mem q).2).2):=by
           unfold mout;rw [his,decide_eq_true h4,if_pos rfl,ho];unfold Vi.nextV;rw [if_neg h5,if_pos rfl,hf]
          rw [hmo,if_neg h5];rfl
     · have hmo:mout D v n ep q=((Vi.zv,6),D):=by
        unfold mout;rw [his,decide_eq_false h4];rfl
       rw [hmo,if_n1 (show ¬((v.mem n).1=true∧(v.mem n).2=ep∧(v.mem q).1=true) from fun z=>h4 ⟨z.1,z.2.1⟩)];rfl
   · rw [if_neg h2,if_ne1 h2]
 · rw [if_neg h1,if_ne1 h1]
theorem say_eq {D:Dv.Dev} {J:Ar.Job} (h:Fits D J) (n:Int) (l:Le.Le):msay D J n l=rsay D J n l:=by
 have hb:=job_b h.may;have hs:=h.sec;unfold msay sayQ rsay;rw [h.q1,h.q2,first0_z,first0_z];by_cases h1:n<0∨J.n≤n
 · rw [if_pos (show n<0∨J.n≤n∨l.may=false∨l.ep=0 from by rcases h1 with h4 | h4;exact Or.inl h4;exact Or.inr (Or.inl h4)),show Qt J n=false by unfold Qt;rw [Bool.and_eq_false_iff];rcases h1 with h4 | h4;exact Or.inl (decide_eq_false (by omega));exact Or.inr (decide_eq_false (by omega))];rfl
 · rw [node_t (by omega) (by omega),qa_t,first0_z];have hep:=epoch_le h.ok n;by_cases h2:l.ep<1∨(D.epoch n).1<l.ep
   · have e1:Qx (some D) n l.ep=false:=by unfold Qx;rw [Bool.and_eq_false_iff];rcases h2 with h4 | h4;exact Or.inl (decide_eq_false (by omega));exact Or.inr (decide_eq_false (by show ¬l.ep≤(D.epoch n).1;omega))
     rw [e1];have e2:rwho D J n l.ep=2:=by unfold rwho;rw [if_neg h1,if_pos h2]
     rw [e2];have e3:first0 [qa false 2]=2:=rfl;rw [e3,if_neg (show ¬((2:Int)=0) by decide)];split <;> rfl
   · rw [show Qx (some D) n l.ep=true by unfold Qx;rw [decide_eq_true (by omega),show decide (l.ep≤(oEpoch (some D) n).1)=true from decide_eq_true (by show l.ep≤(D.epoch n).1;omega)];rfl,if_pos (show first0 [qa true 2]=0 from rfl)];unfold Le.putL;cases hm:l.may with
     | false=>rw [if_pos (show n<0∨J.n≤n∨false=false∨l.ep=0 from Or.inr (Or.inr (Or.inl rfl)))];rfl
     | true=>
      rw [if_neg (show ¬(true=false) by simp),if_neg (show ¬(n<0∨J.n≤n∨true=false∨l.ep=0) by simp;omega)];have hw:((1+n.toNat:Nat):Int)=1+n:=by omega
      have h3:(if l=Le.le0 then (Le.zs 64,(0:Int)) else (Le.QR l,0)).2=0:=by split <;> rfl
      rw [if_pos h3,hw];by_cases h5:l.ep<(D.epoch n).1
      · have e2:rwho D J n l.ep=8:=by unfold rwho;rw [if_neg h1,if_neg h2,if_pos h5]
        rw [e2,if_ne1 (show ¬((8:Int)=0) by decide)];rw [epoch_of h (by omega) (by omega)] at h5 h2;unfold Dv.Dev.write;have e3:D.ref n l.ep (Dv.hasS D.S.length (1+n) ([(if l=Le.le0 then (Le.zs 64,(0:Int)) else (Le.QR l,0)).1].length:Nat))=8:=by
         unfold Dv.Dev.ref;rw [if_pos ⟨by simp [Dv.hasS];omega,hasN_of h (by omega) (by omega),by omega,by omega⟩,if_pos h5]
        rw [e3,if_neg (show ¬((8:Int)=0) by decide)]
      · have e2:rwho D J n l.ep=0:=by unfold rwho;rw [if_neg h1,if_neg h2,if_neg h5]
        rw [e2,if_ne0 rfl]
open Go.RowKit
open Le (Mm Qh Qo)
structure Pz (b g r sg eg:Nat) (D E:Dv.Dev) (w W:World) (bs:List (Nat×Nat×List Value)):Prop where
 kept:Kept [b,g,r,sg,eg] w W
 dv:Dv.Dv W b g D
 rv:Dv.Rv W r sg eg E
 fst:Vi.First W
 blk:∀x∈bs,Blk W x.1 x.2.1 x.2.2
 own:∀x∈bs,w.heap.size≤x.1
 nd:(bs.map (·.1)).Nodup
 ne:∀x∈bs,x.1∉ [b,g,r,sg,eg]
 ap:((b≠r∧b≠sg∧b≠eg)∧(g≠r∧g≠sg∧g≠eg))
 z:0∉ [b,g,r,sg,eg]
 wz:0<w.heap.size
structure P2 (b g r sg eg:Nat) (D E:Dv.Dev) (W:World):Prop where
 dv:Dv.Dv W b g D
 rv:Dv.Rv W r sg eg E
 fst:Vi.First W
 ap:((b≠r∧b≠sg∧b≠eg)∧(g≠r∧g≠sg∧g≠eg))
 z:0∉ [b,g,r,sg,eg]
section
variable {b g r sg eg:Nat} {D E D':Dv.Dev} {w W W':World} {bs:List (Nat×Nat×List Value)}
theorem P2.keptX {X:List Nat} (h:P2 b g r sg eg D E W) (hk:Kept X W W') (hX:∀q∈ [b,g,r,sg,eg],q∉X) (h0:0∉X):P2 b g r sg eg D E W':=
 ⟨h.dv.kept hk (hX b (by simp)) (hX g (by simp)),h.rv.kept hk (hX r (by simp)) (hX sg (by simp)) (hX eg (by simp)),h.fst.keptX hk h0,h.ap,h.z⟩
theorem Pz.p2 (h:Pz b g r sg eg D E w W bs):P2 b g r sg eg D E W:=⟨h.dv,h.rv,h.fst,h.ap,h.z⟩
theorem Pz.init (h:P2 b g r sg eg D E w):Pz b g r sg eg D E w w []:=⟨Kept.refl _ _,h.dv,h.rv,h.fst,(fun x hx=>by cases hx),(fun x hx=>by cases hx),List.nodup_nil,(fun x hx=>by cases hx),h.ap,h.z,h.fst.lt⟩
theorem Pz.step (h:Pz b g r sg eg D E w W bs) (hk:Kept [] W W'):Pz b g r sg eg D E w W' bs:=
 ⟨h.kept.trans (hk.mono (by simp)),h.dv.kept hk (by simp) (by simp),h.rv.kept hk (by simp) (by simp) (by simp),h.fst.kept hk,fun x hx=>(h.blk x hx).kept hk (by simp),h.own,h.nd,h.ne,h.ap,h.z,h.wz⟩
theorem Pz.at (h:Pz b g r sg eg D E w W bs) (i:Nat) (x:Nat×Nat×List Value) (hx:bs[i]?=some x):Blk W x.1 x.2.1 x.2.2:=h.blk x (List.mem_of_getElem? hx)
theorem Pz.new {q T:Nat} {vs:List Value} (h:Pz b g r sg eg D E w W bs) (hb:q=W.heap.size) (B:Blk W' q T vs) (K:Kept [] W W'):Pz b g r sg eg D E w W' (bs++ [(q,T,vs)]):=by
 have h':=h.step K;have hlt:=h.rv.lt;have hlt2:=h.dv.lt;have hs:=h.kept.size;refine⟨h'.kept,h'.dv,h'.rv,h'.fst,?_,?_,?_,?_,h.ap,h.z,h.wz⟩
 · intro x hx;rcases List.mem_append.1 hx with hx | hx
   · exact h'.blk x hx
   · simp at hx;subst hx;exact B
 · intro x hx;rcases List.mem_append.1 hx with hx | hx
   · exact h.own x hx
   · simp at hx;subst hx;rw [hb];exact hs
 · rw [List.map_append,List.nodup_append];refine⟨h.nd,by simp,?_⟩;intro a ha c hc;simp at hc;subst hc;obtain⟨x,hx,rfl⟩:=List.mem_map.1 ha;have:=(h.blk x hx).lt;omega
 · intro x hx;rcases List.mem_append.1 hx with hx | hx
   · exact h.ne x hx
   · simp at hx;subst hx;simp;omega
theorem Pz.devA (h:Pz b g r sg eg D E w W bs) (k:Kept [b,g] W W') (hd:Dv.Dv W' b g D'):Pz b g r sg eg D' E w W' bs:=by
 have ha:=h.ap;have hz:0∉ [b,g]:=fun hm=>h.z (by simp at hm ⊢;omega);exact⟨h.kept.trans (k.mono (by simp)),hd,h.rv.kept k (by simp;omega) (by simp;omega) (by simp;omega),h.fst.keptX k hz,fun x hx=>(h.blk x hx).kept k (fun hm=>h.ne x hx (by simp at hm ⊢;omega)),h.own,h.nd,h.ne,h.ap,h.z,h.wz⟩
theorem Pz.devB {Y:List Nat} (h:Pz b g r sg eg D E w W bs) (k:Kept Y W W') (hY:Y⊆ [r,sg,eg]) (hr:Dv.Rv W' r sg eg D'):Pz b g r sg eg D D' w W' bs:=by
 have ha:=h.ap;have k3:=k.mono hY;have hz:0∉ [r,sg,eg]:=fun hm=>h.z (by simp at hm ⊢;omega);exact⟨h.kept.trans (k3.mono (by simp)),h.dv.kept k3 (by simp;omega) (by simp;omega),hr,h.fst.keptX k3 hz,fun x hx=>(h.blk x hx).kept k3 (fun hm=>h.ne x hx (by simp at hm ⊢;omega)),h.own,h.nd,h.ne,h.ap,h.z,h.wz⟩
theorem Pz.mm (h:Pz b g r sg eg D E w W bs):Mm (bs.map (·.1)) W W bs:=⟨Kept.refl _ _,h.blk,(fun x hx _=>List.mem_map.2 ⟨x,hx,rfl⟩),h.nd⟩
theorem Pz.upd {cs:List (Nat×Nat×List Value)} (h:Pz b g r sg eg D E w W bs) (m:Mm (bs.map (·.1)) W W' cs) (e:cs.map (·.1)=bs.map (·.1)):Pz b g r sg eg D E w W' cs:=by
 have hn:∀q∈ [b,g,r,sg,eg],q∉bs.map (·.1):=fun q hq hm=>by
   obtain⟨x,hx,rfl⟩:=List.mem_map.1 hm;exact h.ne x hx hq
 have h0:0∉bs.map (·.1):=fun hm=>by
   obtain⟨x,hx,h9⟩:=List.mem_map.1 hm;have h2:=h.own x hx;have h4:=h.wz;omega
 have hmem:∀x∈cs,∃y∈bs,y.1=x.1:=fun x hx=>by
   have:x.1∈bs.map (·.1):=by rw [← e];exact List.mem_map.2 ⟨x,hx,rfl⟩
   obtain⟨y,hy,h9⟩:=List.mem_map.1 this;exact⟨y,hy,h9⟩
 refine⟨h.kept.fresh m.kept (fun k hk hl=> ?_),h.dv.kept m.kept (hn b (by simp)) (hn g (by simp)),h.rv.kept m.kept (hn r (by simp)) (hn sg (by simp)) (hn eg (by simp)),h.fst.keptX m.kept h0,m.blk,?_,by rw [e];exact h.nd,?_,h.ap,h.z,h.wz⟩
 · obtain⟨x,hx,rfl⟩:=List.mem_map.1 hk;have:=h.own x hx;omega
 · intro x hx;obtain⟨y,hy,h9⟩:=hmem x hx;rw [← h9];exact h.own y hy
 · intro x hx;obtain⟨y,hy,h9⟩:=hmem x hx;rw [← h9];exact h.ne y hy
end
section
variable {ops:Array Oper} {rest:List Oper} {op:Oper} {a:Act} {w w0:World} {Q:Exit→Act→World→Prop} {bs:List (Nat×Nat×List Value)} {b g r sg eg:Nat} {D E:Dv.Dev}
theorem wpStoreZ {T n:Nat} (hT:Row T n) (hgd:op.guard=none) (x y:Operand) (ho:op.op= .store T x y) (hd:op.dst=none) (q i:Nat) (vs:List Value) (hx:a.eval x=P0 q) (hy:a.eval y=Qd vs) (hl:vs.length=n) (h1:∀v∈vs,v.oneCell'=true) (hM:Pz b g r sg eg D E w0 w bs) {us:List Value} (hi:bs[i]?=some (q,T,us)) (hu:us.length=n)
  (h:∀W,Pz b g r sg eg D E w0 W (bs.set i (q,T,vs))→wpList Tryz.prog ops Q rest a W):wpList Tryz.prog ops Q (op::rest) a w:=
 Qh hT hgd x y ho hd q i vs hx hy hl h1 hM.mm hi hu fun W m=>h W (hM.upd m (set_fst i hi))
end
structure S6 where
 kd:Int
 n:Int
 ep:Int
 who:Int
 be:Int
 re:Int
def S6.C (s:S6):List Value:= [.int .i64 s.kd,.int .i64 s.n,.int .i64 s.ep,.int .i64 s.who,.int .i64 s.be,.int .i64 s.re]
theorem row38:Row 38 6:=⟨_,Tryz.underlying38,rfl,by kernel_rfl⟩
def sep (D:Dv.Dev) (s:S6):Int:=if s.ep= -1 then (D.epoch s.n).1 else s.ep
def sle (D:Dv.Dev) (s:S6):Le.Le:=⟨sep D s,s.be,if s.re= -1 then (oV D).1.nu else s.re⟩
def nxt (D:Dv.Dev) (J:Ar.Job) (s:S6):Dv.Dev:=
 if s.kd=1 then (D.up s.n).2.2 else if s.kd=2 then (mjoin D J s.n (sep D s)).2.2 else if s.kd=3 then (mOut D J s.n (sep D s) s.who).2.2
 else if s.kd=4 then (msay D J s.n (sle D s)).2 else if s.kd=5 then (mopen D J s.n (sep D s)).2.2 else D
end Go.Proofs.YtcfflbafclmheaaGreatDoor
