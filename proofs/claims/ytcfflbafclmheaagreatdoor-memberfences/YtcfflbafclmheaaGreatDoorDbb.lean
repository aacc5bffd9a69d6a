/-
  Texts of the walks of member, shortened.
-/
import Derived.Test.YtcfflbafclmheaaGreatDoorDba
set_option maxRecDepth 100000
set_option maxHeartbeats 100000000
set_option linter.unusedSimpArgs false
namespace Go.Proofs.YtcfflbafclmheaaGreatDoor
open Go.RowKit
open Le (Mm Qh Qo)
theorem dq_of {W:World} {b g:Nat} {D:Dv.Dev} (h:Dv.Dv W b g D):Dq W (P0 b) (some D):=⟨b,g,rfl,h⟩
theorem join_len (D:Dv.Dev) (J:Ar.Job) (n ep:Int):(rjoin D J n ep).1.1.ms.length=8:=by
 unfold rjoin;split
 · rfl
 · split
   · rfl
   · split
     · exact getV_len _
     · split
       · rfl
       · exact mswap_len _ _ _ _ _ (by rw [List.length_set];exact getV_len _)
theorem open_len (D:Dv.Dev) (J:Ar.Job) (n ep:Int):(ropen D J n ep).1.1.ms.length=8:=by
 unfold ropen;split
 · rfl
 · split
   · rfl
   · split
     · exact getV_len _
     · split
       · rfl
       · split
         · rfl
         · exact mswap_len _ _ _ _ _ (getV_len _)
theorem out_len (D:Dv.Dev) (J:Ar.Job) (n ep q:Int):(rout D J n ep q).1.1.ms.length=8:=by
 unfold rout;split
 · rfl
 · split
   · rfl
   · split
     · rfl
     · split
       · rfl
       · split
         · rfl
         · exact mswap_len _ _ _ _ _ (by rw [List.length_set];exact getV_len _)
theorem does12 (b g r sg eg:Nat) (D:Dv.Dev) (J:Ar.Job) (s:S6) (w:World) (h:P2 b g r sg eg D D w) (hf:Fits D J) (hm6:∀k:Nat,k<8→((oV D).1.mem (k:Int)).2≤2147483646):Calls Tryz.prog 12 #[P0 b,P0 r,Qd (Ar.Qf J),Qd s.C] w fun x w'=>x= .returned (.bool true)∧P2 b g r sg eg (nxt D J s) (nxt D J s) w'∧Kept [b,g,r,sg,eg] w w':=by
 have hJ:J.n≤8:=(job_b hf.may).2.2.1;obtain⟨kd,n,ep,who,be,re⟩:=s;unfold nxt sle sep;simp only;by_cases hep:ep= -1
 · subst hep;rw [if_pos rfl];by_cases c1:kd=1
   · subst c1;rw [if_pos rfl];exact does_1A_F.2 b g r sg eg D J n _ who be re w h (S6.mk 1 n (-1) who be re).C (hide rfl) (hide rfl) (hide rfl) (hide rfl) (hide rfl) (hide rfl) _ _ _ _ (fun W h0=>Dv.r_epoch r sg eg D n W h0) (fun W h0=>Dv.up27 b g D n W h0) (fun W h0=>Dv.r_up r sg eg D n W h0)
   rw [if_neg c1];by_cases c2:kd=2
   · subst c2;rw [if_pos rfl];have hq:=join_eq hf n ((D.epoch n).1);have hl:=join_len D J n ((D.epoch n).1);rw [← hq] at hl;have PR:=fun W (h0:Dv.Rv W r sg eg D)=>rjoin38 r sg eg D J n ((D.epoch n).1) W h0 hJ;rw [← hq] at PR;exact does_2A_F.2 b g r sg eg D J n _ who be re w h (S6.mk 2 n (-1) who be re).C (hide rfl) (hide rfl) (hide rfl) (hide rfl) (hide rfl) (hide rfl) _ _ _ _ _ (fun W h0=>Dv.r_epoch r sg eg D n W h0) hl (Vi.Qk hl) (fun W h0=>join32 b g D J n _ W h0.dv h0.fst) PR
   rw [if_neg c2];by_cases c3:kd=3
   · subst c3;rw [if_pos rfl];have hq:=out_eq hf n ((D.epoch n).1) who hm6;have hl:=out_len D J n ((D.epoch n).1) who;rw [← hq] at hl;have PR:=fun W (h0:Dv.Rv W r sg eg D)=>rout39 r sg eg D J n ((D.epoch n).1) who W h0 hJ;rw [← hq] at PR;exact does_3A_F.2 b g r sg eg D J n _ who be re w h (S6.mk 3 n (-1) who be re).C (hide rfl) (hide rfl) (hide rfl) (hide rfl) (hide rfl) (hide rfl) _ _ _ _ _ (fun W h0=>Dv.r_epoch r sg eg D n W h0) hl (Vi.Qk hl) (fun W h0=>out33 b g D J n _ who W h0.dv h0.fst) PR
   rw [if_neg c3];by_cases c4:kd=4
   · subst c4;rw [if_pos rfl];by_cases hre:re= -1
     · subst hre;rw [if_pos rfl];have hq:=say_eq hf n ⟨(D.epoch n).1,be,(oV D).1.nu⟩;have PR:=fun W (h0:Dv.Rv W r sg eg D)=>rsay40 r sg eg D J n ⟨(D.epoch n).1,be,(oV D).1.nu⟩ W h0 hJ;rw [← hq] at PR;exact does_4Ab_F.2 b g r sg eg D J n _ who be w h (S6.mk 4 n (-1) who be (-1)).C (hide rfl) (hide rfl) (hide rfl) (hide rfl) (hide rfl) (hide rfl) _ _ _ _ _ (fun W h0=>Dv.r_epoch r sg eg D n W h0) (Vi.Qk (getV_len _)) (fun W h0=>rview14 r sg eg D J W h0) (fun W h0=>say31 b g D J n _ W h0) PR
     · rw [if_neg hre];have hq:=say_eq hf n ⟨(D.epoch n).1,be,re⟩;have PR:=fun W (h0:Dv.Rv W r sg eg D)=>rsay40 r sg eg D J n ⟨(D.epoch n).1,be,re⟩ W h0 hJ;rw [← hq] at PR;exact does_4Aa_F.2 b g r sg eg D J n _ who be re w h (S6.mk 4 n (-1) who be re).C (hide rfl) (hide rfl) (hide rfl) (hide rfl) (hide rfl) (hide rfl) _ _ _ (fun W h0=>Dv.r_epoch r sg eg D n W h0) hre (fun W h0=>say31 b g D J n _ W h0) PR
   rw [if_neg c4];by_cases c5:kd=5
   · subst c5;rw [if_pos rfl];have hq:=open_eq hf n ((D.epoch n).1);have hl:=open_len D J n ((D.epoch n).1);rw [← hq] at hl;have PR:=fun W (h0:Dv.Rv W r sg eg D)=>ropen41 r sg eg D J n ((D.epoch n).1) W h0 hJ;rw [← hq] at PR;exact does_5A_F.2 b g r sg eg D J n _ who be re w h (S6.mk 5 n (-1) who be re).C (hide rfl) (hide rfl) (hide rfl) (hide rfl) (hide rfl) (hide rfl) _ _ _ _ _ (fun W h0=>Dv.r_epoch r sg eg D n W h0) hl (Vi.Qk hl) (fun W h0=>open34 b g D J n _ W h0.dv h0.fst) PR
   rw [if_neg c5];by_cases c6:kd=6
   · subst c6;have hq:=lease_eq hf n;have PR:=fun W (h0:Dv.Rv W r sg eg D)=>rlease42 r sg eg D J n W h0 hJ;rw [← hq] at PR;exact does_6A_F.2 b g r sg eg D J n _ who be re w h (S6.mk 6 n (-1) who be re).C (hide rfl) (hide rfl) (hide rfl) (hide rfl) (hide rfl) (hide rfl) _ _ _ (fun W h0=>Dv.r_epoch r sg eg D n W h0) (fun W h0=>lease30 _ (some D) J n W (dq_of h0.dv)) PR
   exact does_0A_F.2 b g r sg eg D J kd n _ who be re w h (S6.mk kd n (-1) who be re).C (hide rfl) (hide rfl) (hide rfl) (hide rfl) (hide rfl) (hide rfl) _ (fun W h0=>Dv.r_epoch r sg eg D n W h0) c1 c2 c3 c4 c5 c6
 · rw [if_neg hep];by_cases c1:kd=1
   · subst c1;rw [if_pos rfl];exact does_1A_F.1 b g r sg eg D J n ep who be re w h (S6.mk 1 n ep who be re).C (hide rfl) (hide rfl) (hide rfl) (hide rfl) (hide rfl) (hide rfl) _ _ _ hep (fun W h0=>Dv.up27 b g D n W h0) (fun W h0=>Dv.r_up r sg eg D n W h0)
   rw [if_neg c1];by_cases c2:kd=2
   · subst c2;rw [if_pos rfl];have hq:=join_eq hf n (ep);have hl:=join_len D J n (ep);rw [← hq] at hl;have PR:=fun W (h0:Dv.Rv W r sg eg D)=>rjoin38 r sg eg D J n (ep) W h0 hJ;rw [← hq] at PR;exact does_2A_F.1 b g r sg eg D J n ep who be re w h (S6.mk 2 n ep who be re).C (hide rfl) (hide rfl) (hide rfl) (hide rfl) (hide rfl) (hide rfl) _ _ _ _ hep hl (Vi.Qk hl) (fun W h0=>join32 b g D J n _ W h0.dv h0.fst) PR
   rw [if_neg c2];by_cases c3:kd=3
   · subst c3;rw [if_pos rfl];have hq:=out_eq hf n (ep) who hm6;have hl:=out_len D J n (ep) who;rw [← hq] at hl;have PR:=fun W (h0:Dv.Rv W r sg eg D)=>rout39 r sg eg D J n (ep) who W h0 hJ;rw [← hq] at PR;exact does_3A_F.1 b g r sg eg D J n ep who be re w h (S6.mk 3 n ep who be re).C (hide rfl) (hide rfl) (hide rfl) (hide rfl) (hide rfl) (hide rfl) _ _ _ _ hep hl (Vi.Qk hl) (fun W h0=>out33 b g D J n _ who W h0.dv h0.fst) PR
   rw [if_neg c3];by_cases c4:kd=4
   · subst c4;rw [if_pos rfl];by_cases hre:re= -1
     · subst hre;rw [if_pos rfl];have hq:=say_eq hf n ⟨ep,be,(oV D).1.nu⟩;have PR:=fun W (h0:Dv.Rv W r sg eg D)=>rsay40 r sg eg D J n ⟨ep,be,(oV D).1.nu⟩ W h0 hJ;rw [← hq] at PR;exact does_4Ab_F.1 b g r sg eg D J n ep who be w h (S6.mk 4 n ep who be (-1)).C (hide rfl) (hide rfl) (hide rfl) (hide rfl) (hide rfl) (hide rfl) _ _ _ _ hep (Vi.Qk (getV_len _)) (fun W h0=>rview14 r sg eg D J W h0) (fun W h0=>say31 b g D J n _ W h0) PR
     · rw [if_neg hre];have hq:=say_eq hf n ⟨ep,be,re⟩;have PR:=fun W (h0:Dv.Rv W r sg eg D)=>rsay40 r sg eg D J n ⟨ep,be,re⟩ W h0 hJ;rw [← hq] at PR;exact does_4Aa_F.1 b g r sg eg D J n ep who be re w h (S6.mk 4 n ep who be re).C (hide rfl) (hide rfl) (hide rfl) (hide rfl) (hide rfl) (hide rfl) _ _ hep hre (fun W h0=>say31 b g D J n _ W h0) PR
   rw [if_neg c4];by_cases c5:kd=5
   · subst c5;rw [if_pos rfl];have hq:=open_eq hf n (ep);have hl:=open_len D J n (ep);rw [← hq] at hl;have PR:=fun W (h0:Dv.Rv W r sg eg D)=>ropen41 r sg eg D J n (ep) W h0 hJ;rw [← hq] at PR;exact does_5A_F.1 b g r sg eg D J n ep who be re w h (S6.mk 5 n ep who be re).C (hide rfl) (hide rfl) (hide rfl) (hide rfl) (hide rfl) (hide rfl) _ _ _ _ hep hl (Vi.Qk hl) (fun W h0=>open34 b g D J n _ W h0.dv h0.fst) PR
   rw [if_neg c5];by_cases c6:kd=6
   · subst c6;have hq:=lease_eq hf n;have PR:=fun W (h0:Dv.Rv W r sg eg D)=>rlease42 r sg eg D J n W h0 hJ;rw [← hq] at PR;exact does_6A_F.1 b g r sg eg D J n ep who be re w h (S6.mk 6 n ep who be re).C (hide rfl) (hide rfl) (hide rfl) (hide rfl) (hide rfl) (hide rfl) _ _ hep (fun W h0=>lease30 _ (some D) J n W (dq_of h0.dv)) PR
   exact does_0A_F.1 b g r sg eg D J kd n ep who be re w h (S6.mk kd n ep who be re).C (hide rfl) (hide rfl) (hide rfl) (hide rfl) (hide rfl) (hide rfl) hep c1 c2 c3 c4 c5 c6
open Go.RowKit
open Le (Mm Qh Qo)
structure Gd (D:Dv.Dev) (J:Ar.Job) (i:Int):Prop where
 may:J.may=true
 sec:J.sectors.1≤D.S.length
 n:J.n=D.N
 cut:D.set=false
 ep:∀k:Nat,k<D.N→1≤D.ep k∧D.ep k≤1+i
 v0:(oV D).2=0
 mem:∀k:Nat,k<8→((oV D).1.mem k).1=true→k<D.N∧((oV D).1.mem k).2≤D.ep k
 nu:(oV D).1.nu≤i
theorem Gd.fits {D:Dv.Dev} {J:Ar.Job} {i:Int} (h:Gd D J i) (ok:D.Ok):Fits D J:=⟨ok,h.may,h.sec,h.n⟩
theorem Gd.vmay {D:Dv.Dev} {J:Ar.Job} {i:Int} (h:Gd D J i):(oV D).1.may=true:=getV_may _ h.v0
theorem Gd.six {D:Dv.Dev} {J:Ar.Job} {i:Int} (h:Gd D J i) (hi:i≤1000):∀k:Nat,k<8→((oV D).1.mem (k:Int)).2≤2147483646:=by
 intro k hk;cases hq:((oV D).1.mem (k:Int)).1 with
 | true=>
  obtain⟨h1,h2⟩:=h.mem k hk hq;have:=(h.ep k h1).2;omega
 | false=>
  have:=mem_no h.vmay (getV_len _) (n:=(k:Int)) (by omega) (by omega) hq;rw [this];decide
def Cg (D D':Dv.Dev) (J:Ar.Job):Prop:=
 (oV D').1=(oV D).1∨((oV D).1.op=false∧(oV D').1=⟨(oV D).1.nu,true,(oV D).1.fd,(oV D).1.ms⟩∧mall (some D) J (oV D).1=true)
 ∨((oV D').1.nu=(oV D).1.nu+1∧(oV D').1.op=false∧∀k:Nat,k<8→((oV D).1.mem k).1=true→(oV D').1.mem k=(oV D).1.mem k∨((oV D).1.mem k).2<D'.ep k)
theorem oV_same {D D':Dv.Dev} (h:D'.S.getD 0 Dv.nought=D.S.getD 0 Dv.nought):oV D'=oV D:=by unfold oV;rw [h]
structure Er (D D':Dv.Dev) (i:Int):Prop where
 s0:D'.S.getD 0 Dv.nought=D.S.getD 0 Dv.nought
 len:D'.S.length=D.S.length
 n:D'.N=D.N
 cut:D'.set=false
 ep:∀k:Nat,k<D.N→D.ep k≤D'.ep k∧D'.ep k≤2+i
theorem Er.refl {D:Dv.Dev} {J:Ar.Job} {i:Int} (h:Gd D J i):Er D D i:=⟨rfl,rfl,rfl,h.cut,fun k hk=>⟨Int.le_refl _,by have:=(h.ep k hk).2;omega⟩⟩
theorem Er.gd {D D':Dv.Dev} {J:Ar.Job} {i:Int} (h:Gd D J i) (e:Er D D' i):Gd D' J (i+1):=by
 have hv:=oV_same e.s0;refine⟨h.may,by rw [e.len];exact h.sec,by rw [e.n];exact h.n,e.cut,?_,by rw [hv];exact h.v0,?_,by rw [hv];have:=h.nu;omega⟩
 · intro k hk;rw [e.n] at hk;have h1:=h.ep k hk;have h2:=e.ep k hk;omega
 · intro k hk hi;rw [hv] at hi⊢;obtain⟨h1,h2⟩:=h.mem k hk hi;have h3:=e.ep k h1;exact⟨by rw [e.n];exact h1,by omega⟩
theorem Er.cg {D D':Dv.Dev} {J:Ar.Job} {i:Int} (e:Er D D' i):Cg D D' J:=Or.inl (by rw [oV_same e.s0])
theorem ep_nat (D:Dv.Dev) (k:Nat):D.ep (k:Int)=D.E.getD k 0:=by unfold Dv.Dev.ep;rw [Int.toNat_natCast]
theorem step_nc {D:Dv.Dev} (h:D.set=false) (S:List (List Int)) (E:List Int):(D.step S E).1= { D with S:=S,E:=E,done:=wrap64 (D.done+1) } ∧(D.step S E).2=true:=by
 unfold Dv.Dev.step;rw [if_neg (fun z=>by rw [h] at z;cases z.1),h];exact⟨rfl,rfl⟩
theorem step_E {D:Dv.Dev} {J:Ar.Job} {i:Int} (h:Gd D J i) (x:Nat) (e:Int) (h1:D.ep x≤e) (h2:e≤2+i) (hx:x<8) (h8:D.E.length=8):Er D (D.step D.S (D.E.set x e)).1 i∧(D.step D.S (D.E.set x e)).1.ep x=e:=by
 rw [(step_nc h.cut _ _).1];have hep:∀k:Nat,({ D with S:=D.S,E:=D.E.set x e,done:=wrap64 (D.done+1) } :Dv.Dev).ep k=if x=k then e else D.ep k:=by
   intro k;rw [ep_nat,ep_nat];show(D.E.set x e).getD k 0=_;rw [List.getD_eq_getElem?_getD,List.getElem?_set];split
   · rename_i hq;rw [if_pos (by omega)];rfl
   · rw [List.getD_eq_getElem?_getD]
 refine⟨⟨rfl,rfl,rfl,h.cut,fun k hk=> ?_⟩,?_⟩
 · rw [hep];have:=(h.ep k hk).2;split
   · rename_i hq;subst hq;omega
   · omega
 · rw [hep,if_pos rfl]
theorem up_er {D:Dv.Dev} {J:Ar.Job} {i:Int} (h:Gd D J i) (ok:D.Ok) (n:Int) (hi:i≤1000):Er D (D.up n).2.2 i:=by
 have hb:=job_b h.may;have hn:=h.n;unfold Dv.Dev.up;split
 · rename_i hq;have hq:=of_decide_eq_true hq;obtain⟨k,rfl⟩:∃k:Nat,n=(k:Int):=⟨n.toNat,by omega⟩;have h1:=h.ep k (by omega);rw [if_neg (by omega)];rw [Int.toNat_natCast];exact(step_E h k _ (by omega) (by omega) (by omega) ok.e8).1
 · exact Er.refl h
theorem fence_er {D:Dv.Dev} {J:Ar.Job} {i:Int} (h:Gd D J i) (ok:D.Ok) (n ep ab:Int) (q:Nat) (hq:q<D.N) (ha:ab≤1+i) (h0:(D.fence n ep q ab).1=0):Er D (D.fence n ep q ab).2 i∧ab<(D.fence n ep q ab).2.ep q:=by
 have hb:=job_b h.may;have hn:=h.n;have h1:=h.ep q hq;unfold Dv.Dev.fence at h0⊢;split
 · simp only;split
   · rename_i h3;rw [Int.toNat_natCast];obtain⟨a1,a2⟩:=step_E h q (ab+1) (by omega) (by omega) (by omega) ok.e8;exact⟨a1,by rw [a2];omega⟩
   · rename_i h3;exact⟨Er.refl h,by omega⟩
 · rename_i h3;rw [if_neg h3] at h0;exact absurd h0 h3
theorem write_er {D:Dv.Dev} {J:Ar.Job} {i:Int} (h:Gd D J i) (n ep:Int) (s:List Int) (hn:0≤n):Er D (D.write n ep (1+n) [s]).2 i:=by
 unfold Dv.Dev.write;split
 · show Er D (D.puts (1+n).toNat [s]) i;unfold Dv.Dev.puts;obtain⟨a1,a2⟩:=step_nc h.cut (D.S.set (1+n).toNat s) D.E;rw [a2,if_pos rfl,a1];unfold Dv.Dev.puts;refine⟨?_,by simp,rfl,h.cut,fun k hk=>⟨Int.le_refl _,by have:=(h.ep k hk).2;show D.ep k≤_;omega⟩⟩;show(D.S.set (1+n).toNat s).getD 0 Dv.nought=_;rw [List.getD_eq_getElem?_getD,List.getElem?_set_ne (by omega),List.getD_eq_getElem?_getD]
 · exact Er.refl h
theorem swap_dev (D:Dv.Dev) (n ep:Int) (v u:Vi.Vw):(mswap D n ep v u).2.2=D∨(mswap D n ep v u).2.2=(D.step (D.S.set 0 (Vi.Zr u).1) D.E).1:=by
 have hs:(D.swap n ep 0 (Vi.Zr v).1 (Vi.Zr u).1).2.2=D∨(D.swap n ep 0 (Vi.Zr v).1 (Vi.Zr u).1).2.2=(D.step (D.S.set 0 (Vi.Zr u).1) D.E).1:=by
   unfold Dv.Dev.swap;split
   · split
     · exact Or.inr rfl
     · exact Or.inl rfl
   · exact Or.inl rfl
 unfold mswap;split
 · split
   · exact hs
   · exact hs
 · exact hs
theorem swap_gd {D D1:Dv.Dev} {J:Ar.Job} {i:Int} (h:Gd D J i) (e:Er D D1 i) (ok1:D1.S.length≥1) (n ep:Int) (v u:Vi.Vw) (hu:u.Ok) (hum:u.may=true) (hnu:u.nu≤i+1) (hmem:∀k:Nat,k<8→(u.mem k).1=true→k<D.N∧(u.mem k).2≤D1.ep k):
   Gd (mswap D1 n ep v u).2.2 J (i+1)∧((oV (mswap D1 n ep v u).2.2).1=(oV D).1∨(oV (mswap D1 n ep v u).2.2).1=u)∧∀k:Nat,(mswap D1 n ep v u).2.2.ep k=D1.ep k:=by
 rcases swap_dev D1 n ep v u with h1 | h1
 · rw [h1];exact⟨Er.gd h e,Or.inl (by rw [oV_same e.s0]),fun _=>rfl⟩
 · rw [h1,(step_nc e.cut _ _).1];have hv:oV ({ D1 with S:=D1.S.set 0 (Vi.Zr u).1,E:=D1.E,done:=wrap64 (D1.done+1) } :Dv.Dev)=(u,0):=by
     unfold oV;show Vi.getV ((D1.S.set 0 (Vi.Zr u).1).getD 0 Dv.nought)=_;rw [List.getD_eq_getElem?_getD,List.getElem?_set_self (by omega)];exact Vi.get_put hum hu
   refine⟨⟨h.may,?_,?_,e.cut,?_,?_,?_,?_⟩,Or.inr (by rw [hv]),fun _=>rfl⟩
   · show J.sectors.1≤((D1.S.set 0 (Vi.Zr u).1).length:Nat);rw [List.length_set,e.len];exact h.sec
   · show J.n=D1.N;rw [e.n];exact h.n
   · intro k hk;have hk2:k<D.N:=by rw [← e.n];exact hk
     have h2:=h.ep k hk2;have h3:=e.ep k hk2;show 1≤D1.ep k∧D1.ep k≤_;omega
   · rw [hv]
   · intro k hk hi;rw [hv] at hi⊢;obtain⟨a1,a2⟩:=hmem k hk hi;exact⟨by show k<D1.N;rw [e.n];exact a1,a2⟩
   · rw [hv];exact hnu
theorem mem_set (v:Vi.Vw) (hl:v.ms.length=8) (a:Int) (o:Bool) (f:Int) (x:Nat) (m:Bool×Int) (hx:x<8) (k:Nat):(⟨a,o,f,v.ms.set x m⟩:Vi.Vw).mem (k:Int)=if x=k then m else v.mem (k:Int):=by
 unfold Vi.Vw.mem;simp only [Int.toNat_natCast];rw [List.getD_eq_getElem?_getD,List.getElem?_set];split
 · rw [if_pos (by omega)];rfl
 · rw [List.getD_eq_getElem?_getD]
theorem join_gd {D:Dv.Dev} {J:Ar.Job} {i:Int} (h:Gd D J i) (ok:D.Ok) (hi:i≤1000) (n ep:Int):Gd (mjoin D J n ep).2.2 J (i+1)∧Cg D (mjoin D J n ep).2.2 J:=by
 have hf:=h.fits ok;have hb:=job_b h.may;have hJn:=h.n;rw [join_eq hf];have hsame:Gd D J (i+1)∧Cg D D J:=⟨Er.gd h (Er.refl h),(Er.refl h).cg⟩;unfold rjoin;by_cases h1:rwho D J n ep=0
 · rw [if_ne0 h1,if_ne0 h.v0];obtain⟨g0,g1,g2,g3⟩:=rwho_0 h1;rw [epoch_of hf g0 g1] at g3;split
   · exact hsame
   · rename_i h3;split
     · exact hsame
     · rename_i h4;have hok:=oV_okD ok;have hmay:=h.vmay;obtain⟨k,rfl⟩:∃k:Nat,n=(k:Int):=⟨n.toNat,by omega⟩;have hek:=h.ep k (by omega);have hkk:Vi.Zy (true,ep)=true:=by unfold Vi.Zy Vi.isEp;simp;omega
       have hno:Vi.isNo (k:Int)=true:=decide_eq_true (by omega);have hset:=fun q=>mem_set (oV D).1 hok.len ((oV D).1.nu+1) false (k:Int) k (true,ep) (by omega) q;have hum:=next_may hmay h4 (k:Int) (k:Int) (true,ep) hkk hno (by rw [Int.toNat_natCast,hset,if_pos rfl]);have huo:=nx_ok hok hmay (k:Int) (k:Int) (true,ep) hkk hno;rw [Int.toNat_natCast] at hum huo⊢;have hnu:=h.nu;have hS0:=ok.s0;obtain⟨a1,a2,a3⟩:=swap_gd h (Er.refl h) hS0 (k:Int) ep (oV D).1 _ huo hum (by simp only;omega) (fun q hq hi9=>by
         rw [hset] at hi9⊢;split at hi9
         · rename_i hqk;subst hqk;rw [if_pos rfl];exact⟨by omega,by show ep≤_;omega⟩
         · rename_i hqk;rw [if_neg hqk];exact h.mem q hq hi9)
       refine⟨a1,?_⟩;rcases a2 with a2 | a2
       · exact Or.inl a2
       · refine Or.inr (Or.inr ?_);rw [a2];refine⟨rfl,rfl,fun q hq hi9=> ?_⟩;rw [hset];by_cases hqk:k=q
         · subst hqk;right;rw [a3,← g3];have:¬ep≤((oV D).1.mem (k:Int)).2:=fun z=>h3 ⟨hi9,z⟩;omega
         · left;rw [if_neg hqk]
 · rw [if_ne1 h1];exact hsame
theorem open_gd {D:Dv.Dev} {J:Ar.Job} {i:Int} (h:Gd D J i) (ok:D.Ok) (n ep:Int):Gd (mopen D J n ep).2.2 J (i+1)∧Cg D (mopen D J n ep).2.2 J:=by
 have hf:=h.fits ok;rw [open_eq hf];have hsame:Gd D J (i+1)∧Cg D D J:=⟨Er.gd h (Er.refl h),(Er.refl h).cg⟩;unfold ropen;by_cases h1:rwho D J n ep=0
 · rw [if_ne0 h1,if_ne0 h.v0];split
   · exact hsame
   · rename_i h3;split
     · exact hsame
     · split
       · exact hsame
       · rename_i h5;have hok:=oV_okD ok;have hmay:=h.vmay;have huo:(⟨(oV D).1.nu,true,(oV D).1.fd,(oV D).1.ms⟩:Vi.Vw).Ok:=⟨hok.nu,hok.fd,hok.len,hok.ep⟩;have hnu:=h.nu;obtain⟨a1,a2,a3⟩:=swap_gd h (Er.refl h) ok.s0 n ep (oV D).1 _ huo (open_may hmay) (by simp only;omega) (fun q hq hi9=>h.mem q hq hi9);refine⟨a1,?_⟩;rcases a2 with a2 | a2
         · exact Or.inl a2
         · refine Or.inr (Or.inl ⟨by simpa using h3,a2,?_⟩);rw [all_eq hf hmay hok.len];simpa using h5
 · rw [if_ne1 h1];exact hsame
theorem out_gd {D:Dv.Dev} {J:Ar.Job} {i:Int} (h:Gd D J i) (ok:D.Ok) (hi:i≤1000) (n ep q:Int):Gd (mOut D J n ep q).2.2 J (i+1)∧Cg D (mOut D J n ep q).2.2 J:=by
 have hf:=h.fits ok;have hb:=job_b h.may;have hJn:=h.n;rw [out_eq hf _ _ _ (h.six hi)];have hsame:Gd D J (i+1)∧Cg D D J:=⟨Er.gd h (Er.refl h),(Er.refl h).cg⟩;unfold rout;split
 · exact hsame
 rename_i h0;by_cases h1:rwho D J n ep=0
 · rw [if_ne0 h1,if_ne0 h.v0];obtain⟨g0,g1,g2,g3⟩:=rwho_0 h1;split
   · exact hsame
   · rename_i h3;split
     · exact hsame
     · rename_i h4;have hok:=oV_okD ok;have hmay:=h.vmay;obtain⟨k,rfl⟩:∃k:Nat,n=(k:Int):=⟨n.toNat,by omega⟩;obtain⟨q,rfl⟩:∃x:Nat,q=(x:Int):=⟨q.toNat,by omega⟩;have h3':((oV D).1.mem (k:Int)).1=true∧((oV D).1.mem (k:Int)).2=ep∧((oV D).1.mem (q:Int)).1=true:=Classical.not_not.1 h3;obtain⟨b1,b2⟩:=h.mem q (by omega) h3'.2.2;have hq0:0≤((oV D).1.mem (q:Int)).2:=by
         have h9:=Vi.may_mem hmay hok.len (n:=(q:Int)) (by omega) (by omega);unfold Vi.Zy Vi.isEp at h9;split at h9 <;> simp at h9 <;> omega
       have he:=h.ep q b1;have hfo:=fence_ok hf g0 g1 g3 (q:=(q:Int)) (ab:=((oV D).1.mem (q:Int)).2) (by omega) (by omega) ⟨hq0,by omega⟩;obtain⟨c1,c2⟩:=fence_er h ok (k:Int) ep ((oV D).1.mem (q:Int)).2 q b1 (by omega) hfo;have hno:Vi.isNo (k:Int)=true:=decide_eq_true (by omega);have hset:=fun x=>mem_set (oV D).1 hok.len ((oV D).1.nu+1) false (k:Int) q (false,0) (by omega) x;have hum:=next_may hmay h4 (k:Int) (q:Int) (false,0) rfl hno (by rw [Int.toNat_natCast,hset,if_neg (by omega)];exact h3'.1);have huo:=nx_ok hok hmay (k:Int) (q:Int) (false,0) rfl hno;rw [Int.toNat_natCast] at hum huo⊢;have hnu:=h.nu;have hS0:=ok.s0;obtain⟨a1,a2,a3⟩:=swap_gd h c1 (by rw [c1.len];exact hS0) (k:Int) ep (oV D).1 _ huo hum (by simp only;omega) (fun x hx hi9=>by
         rw [hset] at hi9⊢;split at hi9
         · cases hi9
         · rename_i hqk;rw [if_neg hqk];obtain⟨d1,d2⟩:=h.mem x hx hi9;have:=(c1.ep x d1).1;exact⟨d1,by omega⟩)
       refine⟨a1,?_⟩;rcases a2 with a2 | a2
       · exact Or.inl a2
       · refine Or.inr (Or.inr ?_);rw [a2];refine⟨rfl,rfl,fun x hx hi9=> ?_⟩;rw [hset];by_cases hqk:q=x
         · subst hqk;right;rw [a3];exact c2
         · left;rw [if_neg hqk]
 · rw [if_ne1 h1];exact hsame
theorem say_gd {D:Dv.Dev} {J:Ar.Job} {i:Int} (h:Gd D J i) (ok:D.Ok) (n:Int) (l:Le.Le):Gd (msay D J n l).2 J (i+1)∧Cg D (msay D J n l).2 J:=by
 have hf:=h.fits ok;rw [say_eq hf];have hsame:Gd D J (i+1)∧Cg D D J:=⟨Er.gd h (Er.refl h),(Er.refl h).cg⟩;unfold rsay;split
 · exact hsame
 · rename_i h0;split
   · exact hsame
   · have e:=write_er h n l.ep (Le.putL l).1 (by omega);exact⟨Er.gd h e,e.cg⟩
theorem nxt_gd {D:Dv.Dev} {J:Ar.Job} {i:Int} (h:Gd D J i) (ok:D.Ok) (hi:i≤1000) (s:S6):Gd (nxt D J s) J (i+1)∧Cg D (nxt D J s) J:=by
 unfold nxt;split
 · have e:=up_er h ok s.n hi;exact⟨Er.gd h e,e.cg⟩
 · split
   · exact join_gd h ok hi _ _
   · split
     · exact out_gd h ok hi _ _ _
     · split
       · exact say_gd h ok _ _
       · split
         · exact open_gd h ok _ _
         · exact⟨Er.gd h (Er.refl h),(Er.refl h).cg⟩
open Go.RowKit
open Le (Mm Qh Qo)
def RowS {α:Type} (C:α→List Value) (m:Nat) (W:World) (ao:Option Addr) (l:List α):Prop:=∀i x,l[i]?=some x→∃b o,ao=some ⟨b,o,none⟩∧∀c u,(C x)[c]?=some u→W.cell? ⟨b,o+i*m+c,none⟩=some u
theorem RowS.kept {α:Type} {C:α→List Value} {m:Nat} {W W':World} {ao:Option Addr} {l:List α} (h:RowS C m W ao l) (hk:Kept [] W W'):RowS C m W' ao l:=by
 intro i x hx;obtain⟨b,o,e,h1⟩:=h i x hx;exact⟨b,o,e,fun c u hu=>hk.cell (h1 c u hu) (by simp)⟩
set_option maxRecDepth 100000 in
theorem nought_zs:Dv.nought=Vi.zs 64:=rfl
theorem fv_mem (k:Nat):Vi.fv.mem (k:Int)=(false,0):=by
 unfold Vi.Vw.mem;rw [Int.toNat_natCast,List.getD_eq_getElem?_getD];cases hq:Vi.fv.ms[k]? with
 | none=>rfl
 | some m=>
  have:=List.mem_of_getElem? hq;simpa [Vi.fv,Vi.no8] using this
theorem ups_dev (n N:Nat) (hN:N≤8):∀k:Nat,k≤N→(ups (Dv.QY n N) k).S=Dv.noughts n∧(ups (Dv.QY n N) k).N=N∧(ups (Dv.QY n N) k).set=false∧(ups (Dv.QY n N) k).E.length=8∧∀j:Nat,(ups (Dv.QY n N) k).ep j=if j<k then 1 else 0
 | 0,_=>by
  refine⟨rfl,rfl,rfl,rfl,fun j=> ?_⟩;rw [ep_nat,if_neg (by omega)];show(List.replicate 8 (0:Int)).getD j 0=0;rw [List.getD_eq_getElem?_getD,List.getElem?_replicate];split <;> rfl
 | k+1,hk=>by
  obtain⟨h1,h2,h3,h4,h5⟩:=ups_dev n N hN k (by omega);have hu:ups (Dv.QY n N) (k+1)= { ups (Dv.QY n N) k with S:=(ups (Dv.QY n N) k).S,E:=(ups (Dv.QY n N) k).E.set k 1,done:=wrap64 ((ups (Dv.QY n N) k).done+1) } :=by
    show((ups (Dv.QY n N) k).up k).2.2=_;unfold Dv.Dev.up;rw [h5 k,if_neg (show ¬k<k by omega),if_pos (show Dv.hasN (ups (Dv.QY n N) k).N (k:Int)=true from decide_eq_true (by rw [h2];omega)),if_neg (by decide),Int.toNat_natCast];exact(step_nc h3 _ _).1
  rw [hu];refine⟨h1,h2,h3,by rw [List.length_set];exact h4,fun j=> ?_⟩;rw [ep_nat];show((ups (Dv.QY n N) k).E.set k 1).getD j 0=_;rw [List.getD_eq_getElem?_getD,List.getElem?_set];by_cases hj:k=j
  · rw [if_pos hj,if_pos (by omega),if_pos (by omega)];rfl
  · rw [if_neg hj,← List.getD_eq_getElem?_getD,← ep_nat,h5 j];by_cases h6:j<k
    · rw [if_pos h6,if_pos (by omega)]
    · rw [if_neg h6,if_neg (by omega)]
def jdev (J:Ar.Job):Dv.Dev:=ups (Dv.QY J.sectors.1.toNat J.n.toNat) J.n.toNat
theorem gd_new {J:Ar.Job} (hm:J.may=true):Gd (jdev J) J 0:=by
 have hb:=job_b hm;obtain⟨h1,h2,h3,h4,h5⟩:=ups_dev J.sectors.1.toNat J.n.toNat (by omega) J.n.toNat (Nat.le_refl _);have hv:oV (jdev J)=(Vi.fv,0):=by
   unfold oV jdev;rw [h1];have:(Dv.noughts J.sectors.1.toNat).getD 0 Dv.nought=Dv.nought:=by
    unfold Dv.noughts;rw [List.getD_eq_getElem?_getD,List.getElem?_replicate];split <;> rfl
   rw [this];unfold Vi.getV;rw [if_pos nought_zs]
 refine⟨hm,?_,?_,h3,?_,by rw [hv],?_,by rw [hv];decide⟩
 · unfold jdev;rw [h1];unfold Dv.noughts;rw [List.length_replicate];omega
 · unfold jdev;rw [h2];omega
 · intro k hk;unfold jdev at hk⊢;rw [h2] at hk;rw [h5,if_pos hk];decide
 · intro k hk hi;rw [hv] at hi;simp only [fv_mem] at hi;cases hi
theorem kept_all {X:List Nat} {w W:World} (h:Kept X w W) (hX:∀x∈X,w.heap.size≤x):Kept [] w W:=(Kept.refl [] w).fresh h (fun k hk hl=>by have:=hX k hk;omega)
theorem Pz.of {b g r sg eg:Nat} {D E:Dv.Dev} {w W:World} {bs:List (Nat×Nat×List Value)} (m:Mm [] w W bs) (h:P2 b g r sg eg D E W) (hne:∀x∈bs,x.1∉ [b,g,r,sg,eg]) (hw:0<w.heap.size):Pz b g r sg eg D E w W bs:=
 ⟨m.kept.mono (by simp),h.dv,h.rv,h.fst,m.blk,(fun x hx=>by by_cases hl:x.1<w.heap.size;exact absurd (m.own x hx hl) (by simp);omega),m.nd,hne,h.ap,h.z,hw⟩
section
variable {o:Oper} {a:Act} {w:World} {K:Act→World→Prop} {Q:Exit→Act→World→Prop}
theorem o_idxS (x y:Operand) (ho:o.op= .indexAddr 24 x y) (g off n c j:Nat) (hj:j<n) (hx:a.eval x= .slice (some ⟨g,off,none⟩) n c) (hy:a.eval y= .int .i64 j) (h:K (a.put o.dst (.pointer (some ⟨g,off+j*6,none⟩))) w):o.wp Tryz.prog a w K Q:=by
 have hjI:(j:Int)<(n:Int):=by omega
 unfold Oper.wp execOp;simp only [ho,hx,hy];have e:(if j*6=0 then (⟨g,off,none⟩:Addr) else ⟨g,off+j*6,none⟩)=⟨g,off+j*6,none⟩:=by
  split
  · rename_i hq;rw [hq,Nat.add_zero]
  · rfl
 simp [go_sem,hjI,hj,Addr.add];rw [e];exact h
end
@[reducible] def SD (V:World) (b g r sg eg:Nat) (E:Dv.Dev) (d:Nat→Bool) (_:Nat→Value) (W:World):Prop:=
 Kept [b,g,r,sg,eg] V W∧(d 7=false→Kept [] V W)∧(d 7=true→P2 b g r sg eg E E W)
theorem SD.loc {V:World} {b g r sg eg:Nat} {E:Dv.Dev} :∀d d' vs vs' W,(∀i∈ [7],d i=d' i∧vs i=vs' i)→SD V b g r sg eg E d vs W→SD V b g r sg eg E d' vs' W:=by
 intro d d' vs vs' W H h;have e0:=H 7 (by simp);unfold SD at h⊢;rw [← e0.1];exact h
theorem Pz.dev2 {b g r sg eg:Nat} {D E:Dv.Dev} {w W W':World} {bs:List (Nat×Nat×List Value)} (h:Pz b g r sg eg D D w W bs) (k:Kept [b,g,r,sg,eg] W W') (p:P2 b g r sg eg E E W'):Pz b g r sg eg E E w W' bs:=
 ⟨h.kept.trans k,p.dv,p.rv,p.fst,fun x hx=>(h.blk x hx).kept k (h.ne x hx),h.own,h.nd,h.ne,h.ap,h.z,h.wz⟩
theorem cg12 (vs:Array Value) (w:World):(callFunc 12 vs).run Tryz.prog w= .ok (.enter 12 vs) w:=by kernel_rfl
theorem cg20 (vs:Array Value) (w:World):(callFunc 20 vs).run Tryz.prog w= .ok (.enter 20 vs) w:=by kernel_rfl
end Go.Proofs.YtcfflbafclmheaaGreatDoor
