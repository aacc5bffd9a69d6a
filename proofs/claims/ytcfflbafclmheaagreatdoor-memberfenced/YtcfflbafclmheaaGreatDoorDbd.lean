/-
  Texts of the walks of member, shortened.
-/
import Derived.Test.YtcfflbafclmheaaGreatDoorDbc
import Derived.Test.YtcfflbafclmheaaGreatDoorDas
import Derived.Test.YtcfflbafclmheaaGreatDoorRows
import Derived.MakeChecks
import Derived.LaidLaws
import Derived.ProofKit
import Derived.OpenShut
import Derived.SizedLaws
import Derived.Lib.SmallJoins
import Derived.LaidMore
import Derived.Lay
import Derived.SevenTiedAt
import Derived.Stop.Joined
import Derived.Deep.CutBlock
set_option maxRecDepth 100000
set_option maxHeartbeats 100000000
set_option linter.unusedSimpArgs false
namespace Go.Proofs.YtcfflbafclmheaaGreatDoor
open Go.RowKit
open Le (Mm Qh Qm)
theorem rwho_f {D:Dv.Dev} {J:Ar.Job} (hf:Fits D J) {n ep:Int} (h0:0≤n) (h1:n<J.n) (he:1≤ep∧ep<D.ep n):rwho D J n ep=8:=by
 unfold rwho
 rw [epoch_of hf h0 h1,if_neg (by omega),if_neg (by omega),if_pos he.2]
theorem nxt_fenced {D:Dv.Dev} {J:Ar.Job} {i:Int} (h:Gd D J i) (ok:D.Ok) (hi:i≤1000) (s:S6) (h0:0≤s.n) (h1:s.n<J.n) (he:1≤s.ep∧s.ep<D.ep s.n) (hk:¬s.kd=1):nxt D J s=D:=by
 have hf:=h.fits ok
 have hw:=rwho_f hf h0 h1 he
 have hs:sep D s=s.ep:=by unfold sep;rw [if_neg (by omega)]
 unfold nxt
 rw [if_neg hk]
 split
 · rw [hs,join_eq hf]
   unfold rjoin
   rw [hw,if_ne1 (by decide)]
 · split
   · rw [hs,out_eq hf _ _ _ (h.six hi)]
     unfold rout
     split
     · rfl
     · rw [hw,if_ne1 (by decide)]
   · split
     · rw [say_eq hf]
       unfold rsay
       have hl:(sle D s).ep=s.ep:=hs
       rw [hl]
       split
       · rfl
       · rw [hw,if_ne1 (by decide)]
     · split
       · rw [hs,open_eq hf]
         unfold ropen
         rw [hw,if_ne1 (by decide)]
       · rfl
theorem up_more {D:Dv.Dev} {J:Ar.Job} {i:Int} (h:Gd D J i) (ok:D.Ok) (hi:i≤1000) (n:Int) (h0:0≤n) (h1:n<J.n):(D.up n).2.2.ep n=D.ep n+1:=by
 have hb:=job_b h.may
 have hn:=h.n
 obtain⟨k,rfl⟩:∃k:Nat,n=(k:Int):=⟨n.toNat,by omega⟩
 have h9:=h.ep k (by omega)
 unfold Dv.Dev.up
 rw [if_pos (show Dv.hasN D.N (k:Int)=true from decide_eq_true (by omega)),if_neg (by omega),Int.toNat_natCast]
 exact(step_E h k _ (by omega) (by omega) (by omega) ok.e8).2
set_option linter.unusedVariables false in
theorem fenced_a_F:(∀(J:Ar.Job) (ao:Option Addr) (c:Nat) (X:List S6) (s:S6) (w:World) (hF:Vi.First w) (hm:J.may=true) (h1:decide ((60:Int)<(X.length:Int))=false) (h2:decide (s.n<0)=false) (h3:decide (J.n≤s.n)=false) (HKD:Hid (s.kd=1)),Calls Tryz.prog 5 #[Qd (Ar.Qf J),.slice ao X.length c,Qd s.C] w fun x w'=>x= .returned (.bool true)∧Kept [] w w')∧(∀(J:Ar.Job) (ao:Option Addr) (c:Nat) (X:List S6) (s:S6) (w:World) (hF:Vi.First w) (hm:J.may=true) (h1:decide ((60:Int)<(X.length:Int))=false) (h2:decide (s.n<0)=false) (h3:decide (J.n≤s.n)=false) (hkd:¬s.kd=1) (hX:RowS S6.C 6 w ao X),Calls Tryz.prog 5 #[Qd (Ar.Qf J),.slice ao X.length c,Qd s.C] w fun x w'=>x= .returned (.bool true)∧Kept [] w w')∧(∀(J:Ar.Job) (ao:Option Addr) (c:Nat) (X:List S6) (s:S6) (w:World) (hF:Vi.First w) (hm:J.may=false),Calls Tryz.prog 5 #[Qd (Ar.Qf J),.slice ao X.length c,Qd s.C] w fun x w'=>x= .returned (.bool true)∧Kept [] w w')∧(∀(J:Ar.Job) (ao:Option Addr) (c:Nat) (X:List S6) (s:S6) (w:World) (hF:Vi.First w) (hm:J.may=true) (h1:decide ((60:Int)<(X.length:Int))=true),Calls Tryz.prog 5 #[Qd (Ar.Qf J),.slice ao X.length c,Qd s.C] w fun x w'=>x= .returned (.bool true)∧Kept [] w w')∧(∀(J:Ar.Job) (ao:Option Addr) (c:Nat) (X:List S6) (s:S6) (w:World) (hF:Vi.First w) (hm:J.may=true) (h1:decide ((60:Int)<(X.length:Int))=false) (h2:decide (s.n<0)=true),Calls Tryz.prog 5 #[Qd (Ar.Qf J),.slice ao X.length c,Qd s.C] w fun x w'=>x= .returned (.bool true)∧Kept [] w w')∧(∀(J:Ar.Job) (ao:Option Addr) (c:Nat) (X:List S6) (s:S6) (w:World) (hF:Vi.First w) (hm:J.may=true) (h1:decide ((60:Int)<(X.length:Int))=false) (h2:decide (s.n<0)=false) (h3:decide (J.n≤s.n)=true),Calls Tryz.prog 5 #[Qd (Ar.Qf J),.slice ao X.length c,Qd s.C] w fun x w'=>x= .returned (.bool true)∧Kept [] w w'):=by
 refine⟨fun J ao c X s w hF hm h1 h2 h3 HKD=> ?_,fun J ao c X s w hF hm h1 h2 h3 hkd hX=> ?_,fun J ao c X s w hF hm=> ?_,fun J ao c X s w hF hm h1=> ?_,fun J ao c X s w hF hm h1 h2=> ?_,fun J ao c X s w hF hm h1 h2 h3=> ?_⟩
 have P8:=hide (fun W=>rmay8 J W)
 rw [hm] at P8
 have PK:=hide (fun W (hk:Kept [] w W)=>known9 W (hF.kept hk))
 rotate_left
 have P8:=hide (fun W=>rmay8 J W)
 rw [hm] at P8
 have HX:=hide hX
 have hlen:(X.length:Int)≤60:=by have:=of_decide_eq_false h1;omega
 have HG:=hide (gd_new hm)
 have HJB:=hide (job_b hm)
 have HSN:Hid (0≤s.n∧s.n<J.n):=by have:=of_decide_eq_false h2;have:=of_decide_eq_false h3;show _∧_;omega
 have HKD:=hide hkd
 clear hX
 rotate_left
 have P8:=hide (fun W=>rmay8 J W)
 rw [hm] at P8
 have PK:=hide (fun W (hk:Kept [] w W)=>known9 W (hF.kept hk))
 rotate_left
 have P8:=hide (fun W=>rmay8 J W)
 rw [hm] at P8
 have PK:=hide (fun W (hk:Kept [] w W)=>known9 W (hF.kept hk))
 rotate_left
 have P8:=hide (fun W=>rmay8 J W)
 rw [hm] at P8
 have PK:=hide (fun W (hk:Kept [] w W)=>known9 W (hF.kept hk))
 rotate_left
 have P8:=hide (fun W=>rmay8 J W)
 rw [hm] at P8
 have PK:=hide (fun W (hk:Kept [] w W)=>known9 W (hF.kept hk))
 rotate_left
 all_goals
   go_enter Tryz.func5,Tryz.ntmps5
   have M:Hid (Mm [] w w []):=hide Mm.init
   go_wp2_with (first |(refine Qn rfl (.tmp 0) rfl (Ar.Qf J) rfl ?_;intro W1 b1 e1 B1 K1;replace M:=hide ((Qa M).new e1 B1 K1);clear e1 B1 K1;refine Stp.go ?_))
   constructor
   go_wp2_with (first |(refine Qn rfl (.tmp 2) rfl (s.C) rfl ?_;intro W2 b2 e2 B2 K2;replace M:=hide ((Qa M).new e2 B2 K2);clear e2 B2 K2;refine Stp.go ?_))
   constructor
   go_wp2_with (first |(refine Qg Zw rfl (.tmp 3) rfl b1 0 rfl (Ar.Qf J) rfl ((Qa M).at 0 _ rfl).range ?_;refine Stp.go ?_))
   constructor
 · go_wp2_with (first |(go_at_call 8;refine(Qa P8 _).mono ?_;rintro e W3 ⟨rfl,K3⟩;replace M:=hide ((Qa M).step K3);clear K3;have f0:=Qc ((Qa M).at 0 _ rfl) 0 (.int .i64 J.n) rfl;have f1:=Qc ((Qa M).at 1 _ rfl) 0 (.int .i64 s.kd) rfl;have f2:=Qc ((Qa M).at 1 _ rfl) 1 (.int .i64 s.n) rfl;rw [Qa HKD] at f1;refine Stp.go ?_))
   constructor
   go_wp2_with (first |(go_at_call 9;refine(Qa PK _ (Qa M).kept).mono ?_;rintro e W4 ⟨rfl,K4⟩;replace M:=hide ((Qa M).step K4);clear K4;refine Stp.go ?_))
   constructor
   go_wp2_with fail
   go_ret
   exact⟨rfl,(Qa M).kept⟩
 all_goals
   go_wp2_with (first |(go_at_call 8;refine(Qa P8 _).mono ?_;rintro e W3 ⟨rfl,K3⟩;replace M:=hide ((Qa M).step K3);clear K3;have f0:=Qc ((Qa M).at 0 _ rfl) 0 (.int .i64 J.n) rfl;have f1:=Qc ((Qa M).at 1 _ rfl) 0 (.int .i64 s.kd) rfl;have f2:=Qc ((Qa M).at 1 _ rfl) 1 (.int .i64 s.n) rfl;refine Stp.go ?_))
   constructor
 · go_wp2_with (first |(refine Qg Zw rfl (.tmp 3) rfl b1 0 rfl (Ar.Qf J) rfl ((Qa M).at 0 _ rfl).range ?_;clear f0 f1 f2;refine Stp.go ?_))
   constructor
   go_wp2_with (first |(go_at_call 10;refine(lnew10 J hm _).mono ?_;have HX1:=hide ((Qa M).at 0 _ rfl).lt;have HX2:=hide ((Qa M).at 1 _ rfl).lt;rintro e W4 ⟨b,g,rfl,hb9,hg9,hD9,K4⟩;have HS9:=hide ((Qa M).kept.size);replace M:=hide ((Qa M).step K4);have HD9:=hide hD9;have HL9:=hide hD9.lt;have HBG:Hid (w.heap.size≤b∧w.heap.size≤g):=(by have:=Qa HS9;show _∧_;omega);have HB1:Hid ((b1<b∧b1<g)∧b2<b∧b2<g):=(by have h9:=(Qa HX1);have h8:=Qa HX2;show _∧_;omega);clear K4 hb9 hg9 hD9;refine Stp.go ?_))
   constructor
   go_wp2_with (first |(refine Qg Zw rfl (.tmp 3) rfl b1 0 rfl (Ar.Qf J) rfl ((Qa M).at 0 _ rfl).range ?_;refine Stp.go ?_))
   constructor
   go_wp2_with (
     first
     | (go_at_call 11
        refine(newRef11 J hm _).mono ?_
        rintro e W5 ⟨r,sg,eg,rfl,hr9,hR9,K5⟩
        have HGE:Hid (∀x∈ [b,g,r,sg,eg],w.heap.size≤x):=by
          have q1:=Qa HBG
          have q2:=(Qa M).kept.size
          intro x hx
          simp only [List.mem_cons,List.not_mem_nil,or_false] at hx
          omega
        have HP2:P2 b g r sg eg (jdev J) (jdev J) W5:=by
          have q1:=Qa HL9
          have q3:=Qa HBG
          have q4:=(Qa M).kept.size
          have q5:=hF.lt
          exact⟨(Qa HD9).kept K5 (by simp) (by simp),hR9,hF.kept ((Qa M).kept.trans K5),⟨⟨by omega,by omega,by omega⟩,⟨by omega,by omega,by omega⟩⟩,by simp;omega⟩
        replace M:Hid (Pz b g r sg eg (jdev J) (jdev J) w W5 [(b1,23,Ar.Qf J),(b2,38,s.C)]):=by
          have q0:=((Qa M).at 0 _ rfl).lt
          have q2:=((Qa M).at 1 _ rfl).lt
          have q1:=Qa HB1
          exact Pz.of ((Qa M).step K5) HP2 (fun x hx=>by simp only [List.mem_cons,List.not_mem_nil,or_false] at hx;rcases hx with rfl | rfl <;> (simp only [List.mem_cons,List.not_mem_nil,or_false];omega)) hF.lt
        clear K5 hr9 hR9 HP2 HD9 HL9 HBG HB1
        refine Stp.go ?_))
   constructor
   go_wp2_with fail
   clear hm h1 h2 h3 hkd
   go_loopw [9] (fun xi wr=>∃(j:Nat) (D:Dv.Dev),j≤X.length∧xi= .int .i64 j∧Hid (Gd D J j)∧Hid (Pz b g r sg eg D D w wr [(b1,23,Ar.Qf J),(b2,38,s.C)])) (fun i _=>X.length-(intOf i).toNat)
   case atStart=>exact ⟨0,jdev J,by omega,rfl,HG,M⟩
   case round=>
     clear M HG
     obtain⟨j,D,hj,rfl,HG,M⟩:=hrel
     by_cases hlt:j<X.length
     · have hd:decide ((j:Int)<(X.length:Int))=true:=by simp;omega
       obtain⟨sx,hs⟩:∃s,X[j]?=some s:=⟨_,List.getElem?_eq_getElem hlt⟩
       obtain⟨sb,so,hao,hcs⟩:=Qa HX j sx hs
       subst hao
       have HCS:Hid (w.rangeAt sb (so+j*6) sx.C):=fun i u hu=>hcs i u hu
       have HLT:=hide hlt
       have hjI:(j:Int)≤80:=by omega
       have PD:=hide (fun W (h:P2 b g r sg eg D D W)=>does12 b g r sg eg D J sx W h ((Qa HG).fits h.dv.ok) ((Qa HG).six (by omega)))
       have hstep:=nxt_gd (Qa HG) (Qa M).dv.ok (by omega) sx
       obtain⟨E,hE⟩:∃E,E=nxt D J sx:=⟨_,rfl⟩
       rw [← hE] at PD hstep
       have HG2:=hide hstep.1
       clear hE hcs hs hstep
       go_wp2_with fail
       refine wp_region_any mixed (QK 9 rfl (by kernel_rfl) [some (P0 b),some (P0 r),some (Qd (Ar.Qf J)),some (.slice (some ⟨sb,so,none⟩) X.length c),some (.int .i64 j),some (.pointer (some ⟨sb,so+j*6,none⟩)),some (Qd sx.C),some (.bool true),some (.bool false)] rfl (by kernel_rfl) (fun l vs W=>(SD wr b g r sg eg E) (fun i=>l.getD i false) vs W) (⟨⟨rfl,rfl,rfl,Nat.le_refl _,fun _ _ _=>rfl⟩,(fun _=>⟨rfl,rfl,rfl,Nat.le_refl _,fun _ _ _=>rfl⟩),(fun h=>by cases h)⟩) ?_ ?_)
       · intro ix o' hi ho a' w2 l_ vs hls hlf hJ hout hin hdep hnot
         match ix,ho with
         | 0,ho=>
           obtain rfl:=Oj9 ho
           have e0:=hout 7 (by kernel_rfl)
           replace e0:a'.eval (.tmp 7)=_:=e0.trans rfl
           exact wp_move (.tmp 7) rfl _ e0 ⟨_,rfl,Qe rfl,Le.Qi (St:=(SD wr b g r sg eg E)) [7] SD.loc (by omega) (by decide) hJ⟩
         | 1,ho=>
           obtain rfl:=Oj9 ho
           have e0:=hout 8 (by kernel_rfl)
           replace e0:a'.eval (.tmp 8)=_:=e0.trans rfl
           exact wp_move (.tmp 8) rfl _ e0 ⟨_,rfl,Qe rfl,Le.Qi (St:=(SD wr b g r sg eg E)) [7] SD.loc (by omega) (by decide) hJ⟩
         | 2,ho=>
           obtain rfl:=Oj9 ho
           have e0:=hout 3 (by kernel_rfl)
           replace e0:a'.eval (.tmp 3)=_:=e0.trans rfl
           exact Qw Zw (.tmp 3) rfl b1 0 e0 (Ar.Qf J) rfl (((Qa M).at 0 _ rfl).kept hJ.1 ((Qa M).ne (b1,23,Ar.Qf J) (by simp))).range ⟨_,rfl,Qe rfl,Le.Qi (St:=(SD wr b g r sg eg E)) [7] SD.loc (by omega) (by decide) hJ⟩
         | 3,ho=>
           obtain rfl:=Oj9 ho
           have e0:=hout 1 (by kernel_rfl)
           replace e0:a'.eval (.tmp 1)=_:=e0.trans rfl
           exact wp_move (.tmp 1) rfl _ e0 ⟨_,rfl,Qe rfl,Le.Qi (St:=(SD wr b g r sg eg E)) [7] SD.loc (by omega) (by decide) hJ⟩
         | 4,ho=>
           obtain rfl:=Oj9 ho
           have e0:=hout 9 (by kernel_rfl)
           replace e0:a'.eval (.tmp 9)=_:=e0.trans rfl
           exact wp_move (.tmp 9) rfl _ e0 ⟨_,rfl,Qe rfl,Le.Qi (St:=(SD wr b g r sg eg E)) [7] SD.loc (by omega) (by decide) hJ⟩
         | 5,ho=>
           obtain rfl:=Oj9 ho
           have e0:a'.eval (.tmp 54)= .slice (some ⟨sb,so,none⟩) X.length c:=by have h9:=hin 3 54 (by kernel_rfl) (by kernel_rfl);exact h9.1.trans (Qb _ h9.2 rfl)
           have e1:a'.eval (.tmp 55)= .int .i64 j:=by have h9:=hin 4 55 (by kernel_rfl) (by kernel_rfl);exact h9.1.trans (Qb _ h9.2 rfl)
           exact o_idxS (.tmp 54) (.tmp 55) rfl sb so X.length c j (Qa HLT) e0 e1 ⟨_,rfl,Qe rfl,Le.Qi (St:=(SD wr b g r sg eg E)) [7] SD.loc (by omega) (by decide) hJ⟩
         | 6,ho=>
           obtain rfl:=Oj9 ho
           have e0:a'.eval (.tmp 56)= .pointer (some ⟨sb,so+j*6,none⟩):=by have h9:=hin 5 56 (by kernel_rfl) (by kernel_rfl);exact h9.1.trans (Qb _ h9.2 rfl)
           exact Qw row38 (.tmp 56) rfl sb (so+j*6) e0 sx.C rfl (fun i u hu=>(kept_all ((Qa M).kept.trans hJ.1) (Qa HGE)).cell (Qa HCS i u hu) (by simp)) ⟨_,rfl,Qe rfl,Le.Qi (St:=(SD wr b g r sg eg E)) [7] SD.loc (by omega) (by decide) hJ⟩
         | 7,ho=>
           obtain rfl:=Oj9 ho
           have e0:a'.eval (.tmp 51)=P0 b:=by have h9:=hin 0 51 (by kernel_rfl) (by kernel_rfl);exact h9.1.trans (Qb _ h9.2 rfl)
           have e1:a'.eval (.tmp 52)=P0 r:=by have h9:=hin 1 52 (by kernel_rfl) (by kernel_rfl);exact h9.1.trans (Qb _ h9.2 rfl)
           have e2:a'.eval (.tmp 53)=Qd (Ar.Qf J):=by have h9:=hin 2 53 (by kernel_rfl) (by kernel_rfl);exact h9.1.trans (Qb _ h9.2 rfl)
           have e3:a'.eval (.tmp 57)=Qd sx.C:=by have h9:=hin 6 57 (by kernel_rfl) (by kernel_rfl);exact h9.1.trans (Qb _ h9.2 rfl)
           refine Qt 12 _ _ rfl #[P0 b,P0 r,Qd (Ar.Qf J),Qd sx.C] (by simp [e0,e1,e2,e3]) (cg12 _ _) ((Qa PD w2 ((Qa M).step (hJ.2.1 hlf)).p2).mono ?_)
           rintro e w3 ⟨rfl,hR3,hk3⟩
           exact⟨_,rfl,_,rfl,Qe rfl,Le.QI (St:=(SD wr b g r sg eg E)) (by omega) ⟨hJ.1.trans hk3,(fun h=>by cases h),fun _=>hR3⟩⟩
         | 8,ho=>
           obtain rfl:=Oj9 ho
           have e0:a'.eval (.tmp 58)= .bool true:=by have h9:=hin 7 58 (by kernel_rfl) (by kernel_rfl);exact h9.1.trans (Qb _ h9.2 rfl)
           exact o_not (.tmp 58) rfl true e0 ⟨_,rfl,Qe rfl,Le.Qi (St:=(SD wr b g r sg eg E)) [7] SD.loc (by omega) (by decide) hJ⟩
       intro l_ vs9 V9 hl_ hJ htold
       have t0:vs9 0=P0 b:=Qb _ (htold 0 (by decide)) rfl
       have t1:vs9 1=P0 r:=Qb _ (htold 1 (by decide)) rfl
       have t2:vs9 2=Qd (Ar.Qf J):=Qb _ (htold 2 (by decide)) rfl
       have t3:vs9 3= .slice (some ⟨sb,so,none⟩) X.length c:=Qb _ (htold 3 (by decide)) rfl
       have t4:vs9 4= .int .i64 j:=Qb _ (htold 4 (by decide)) rfl
       have t5:vs9 5= .pointer (some ⟨sb,so+j*6,none⟩):=Qb _ (htold 5 (by decide)) rfl
       have t6:vs9 6=Qd sx.C:=Qb _ (htold 6 (by decide)) rfl
       have t7:vs9 7= .bool true:=Qb _ (htold 7 (by decide)) rfl
       have t8:vs9 8= .bool false:=Qb _ (htold 8 (by decide)) rfl
       rw [show (List.range 9).map vs9= [vs9 0,vs9 1,vs9 2,vs9 3,vs9 4,vs9 5,vs9 6,vs9 7,vs9 8] from rfl]
       simp only [t0,t1,t2,t3,t4,t5,t6,t7,t8,QB,Act.put,List.setIfInBounds_toArray,List.set_cons_succ,List.set_cons_zero]
       clear t0 t1 t2 t3 t4 t5 t6 t7 t8 htold
       replace M:Hid (Pz b g r sg eg E E w V9 [(b1,23,Ar.Qf J),(b2,38,s.C)]):=hide ((Qa M).dev2 hJ.1 (hJ.2.2 (hl_ 7 (by decide))))
       clear hJ hl_
       go_wp2_with fail
       go_roundw
       case rel=>exact ⟨j+1,E,by omega,by first | rfl | go_num,by have h9:=Qa HG2;exact h9,M⟩
       case measure=>simp [intOf];omega
     · obtain rfl:j=X.length:=by omega
       have hd:decide ((X.length:Int)<(X.length:Int))=false:=by simp
       obtain⟨hsn0,hsn1⟩:=Qa HSN
       have hf:=(Qa HG).fits (Qa M).dv.ok
       have hJn:=(Qa HG).n
       have hb8:=(Qa HJB).2.2.1
       obtain⟨k,hk⟩:∃k:Nat,s.n=(k:Int):=⟨s.n.toNat,by omega⟩
       have hep:=(Qa HG).ep k (by omega)
       rw [← hk] at hep
       obtain⟨was,hwas⟩:∃x,x=D.ep s.n:=⟨_,rfl⟩
       rw [← hwas] at hep
       have hw0:1≤was:=hep.1
       have hdw:decide (was<1)=false:=by simp;omega
       have hpe:D.epoch s.n=(was,0):=by
         unfold Dv.Dev.epoch
         rw [if_pos (hasN_of hf hsn0 hsn1),hwas]
       have PE:=hide (fun W (h:Dv.Dv W b g D)=>Dv.epoch19 b g D s.n W h)
       rw [hpe] at PE
       have hmo:=up_more (Qa HG) (Qa M).dv.ok (by omega) s.n hsn0 hsn1
       have hg1:=Er.gd (Qa HG) (up_er (Qa HG) (Qa M).dv.ok s.n (by omega))
       have PU:=hide (fun W (h:Dv.Dv W b g D)=>Dv.up27 b g D s.n W h)
       have PR:=hide (fun W (h:Dv.Rv W r sg eg D)=>Dv.r_up r sg eg D s.n W h)
       obtain⟨⟨u1,u2,D1⟩,hu⟩:∃x,x=D.up s.n:=⟨_,rfl⟩
       rw [← hu] at hmo hg1 PU PR
       simp only at hmo hg1 PU PR
       have HG1:=hide hg1
       have PD:=hide (fun W (h:P2 b g r sg eg D1 D1 W)=>does12 b g r sg eg D1 J ⟨s.kd,s.n,was,s.who,s.be,s.re⟩ W h (hg1.fits h.dv.ok) (hg1.six (by omega)))
       have HNX:Hid (∀ok:D1.Ok,nxt D1 J ⟨s.kd,s.n,was,s.who,s.be,s.re⟩=D1):=fun ok=>nxt_fenced hg1 ok (by omega) ⟨s.kd,s.n,was,s.who,s.be,s.re⟩ hsn0 hsn1 ⟨hw0,by show was<D1.ep s.n;omega⟩ (Qa HKD)
       have f2:=Qc ((Qa M).at 1 _ rfl) 1 (.int .i64 s.n) rfl
       clear hf hJn hb8 hk hep hwas hpe hmo hg1 hu
       go_wp2_with (first |(go_at_call 21;refine(Qa PE _ (Qa M).dv).mono ?_;rintro e W51 ⟨rfl,q51⟩;replace q51:=q51.symm;subst q51;refine Stp.go ?_))
       constructor
       go_wp2_with (first |(go_at_call 22;refine(Qa PU _ (Qa M).dv).mono ?_;rintro e W52 ⟨rfl,R52,K52⟩;replace M:Hid (Pz b g r sg eg D1 D w W52 [(b1,23,Ar.Qf J),(b2,38,s.C)]):=hide ((Qa M).devA K52 R52);clear K52 R52;clear f2;have f2:=Qc ((Qa M).at 1 _ rfl) 1 (.int .i64 s.n) rfl;refine Stp.go ?_))
       constructor
       go_wp2_with (first |(go_at_call 23;refine(Qa PR _ (Qa M).rv).mono ?_;rintro e W53 ⟨rfl,R53,K53⟩;replace M:Hid (Pz b g r sg eg D1 D1 w W53 [(b1,23,Ar.Qf J),(b2,38,s.C)]):=hide ((Qa M).devB K53 (by simp) R53);clear K53 R53;clear f2;refine Stp.go ?_))
       constructor
       go_wp2_with (first |(refine wpStoreZ1 Le.size2 rfl (.tmp 82) (.tmp 81) rfl rfl b2 2 1 (.int .i64 was) ⟨rfl,rfl⟩ rfl rfl (Qa M) rfl (by simp [S6.C]) ?_;intro W54 N54;replace M:Hid (Pz b g r sg eg D1 D1 w W54 [(b1,23,Ar.Qf J),(b2,38,(S6.mk s.kd s.n was s.who s.be s.re).C)]):=hide N54;clear N54;refine Stp.go ?_))
       constructor
       go_wp2_with (
         first
         | (go_at_call 18
            refine(Dv.copy21 b g D1 _ (Qa M).dv).mono ?_
            rintro e W55 ⟨b9,g9,rfl,hb9,hg9,hD9,K55⟩
            have HB9:Hid (b9∉ [b,g,r,sg,eg]∧g9∉ [b,g,r,sg,eg]):=by
              have q1:=(Qa M).dv.lt
              have q2:=(Qa M).rv.lt
              constructor <;> (simp only [List.mem_cons,List.not_mem_nil,or_false];omega)
            replace M:=hide ((Qa M).step K55)
            have HC:=hide hD9
            clear K55 hb9 hg9 hD9
            refine Stp.go ?_))
       constructor
       go_wp2_with (first |(refine Qg Zw rfl (.tmp 3) rfl b1 0 rfl (Ar.Qf J) rfl ((Qa M).at 0 _ rfl).range ?_;refine Stp.go ?_))
       constructor
       go_wp2_with (first |(refine Qg row38 rfl (.tmp 5) rfl b2 0 rfl ((S6.mk s.kd s.n was s.who s.be s.re).C) rfl ((Qa M).at 1 _ rfl).range ?_;refine Stp.go ?_))
       constructor
       go_wp2_with (first |(go_at_call 12;refine(Qa PD _ (Qa M).p2).mono ?_;rw [Qa HNX (Qa M).dv.ok];rintro e W56 ⟨rfl,R56,K56⟩;replace HC:=hide ((Qa HC).kept K56 (Qa HB9).1 (Qa HB9).2);replace M:Hid (Pz b g r sg eg D1 D1 w W56 [(b1,23,Ar.Qf J),(b2,38,(S6.mk s.kd s.n was s.who s.be s.re).C)]):=hide ((Qa M).dev2 K56 R56);clear K56 R56;refine Stp.go ?_))
       constructor
       go_wp2_with (first |(go_at_call 24;refine(Dv.same24 b9 g9 b g D1 _ (Qa HC) (Qa M).dv).mono ?_;rintro e W57 ⟨rfl,K57⟩;replace M:=hide ((Qa M).step K57);clear K57;refine Stp.go ?_))
       constructor
       go_wp2_with (first |(go_at_call 9;refine(known9 _ (Qa M).fst).mono ?_;rintro e W58 ⟨rfl,K58⟩;replace M:=hide ((Qa M).step K58);clear K58;refine Stp.go ?_))
       constructor
       go_wp2_with fail
       go_ret
       exact⟨rfl,kept_all (Qa M).kept (Qa HGE)⟩
 all_goals
   go_wp2_with (first |(go_at_call 9;refine(Qa PK _ (Qa M).kept).mono ?_;rintro e W4 ⟨rfl,K4⟩;replace M:=hide ((Qa M).step K4);clear K4;refine Stp.go ?_))
   constructor
   go_wp2_with fail
   go_ret
   exact⟨rfl,(Qa M).kept⟩
theorem fenced5 (J:Ar.Job) (ao:Option Addr) (c:Nat) (X:List S6) (s:S6) (w:World) (hF:Vi.First w) (hX:RowS S6.C 6 w ao X):Calls Tryz.prog 5 #[Qd (Ar.Qf J),.slice ao X.length c,Qd s.C] w fun x w'=>x= .returned (.bool true)∧Kept [] w w':=by
 cases hm:J.may with
 | false=>exact fenced_a_F.2.2.1 J ao c X s w hF hm
 | true=>
   cases h1:decide ((60:Int)<(X.length:Int)) with
   | true=>exact fenced_a_F.2.2.2.1 J ao c X s w hF hm h1
   | false=>
     cases h2:decide (s.n<0) with
     | true=>exact fenced_a_F.2.2.2.2.1 J ao c X s w hF hm h1 h2
     | false=>
       cases h3:decide (J.n≤s.n) with
       | true=>exact fenced_a_F.2.2.2.2.2 J ao c X s w hF hm h1 h2 h3
       | false=>
         by_cases hk:s.kd=1
         · exact fenced_a_F.1 J ao c X s w hF hm h1 h2 h3 hk
         · exact fenced_a_F.2.1 J ao c X s w hF hm h1 h2 h3 hk hX
open Go.ChangeShapes Go.WideShapes Go.ChangeAt Go.RowKit Go.Joins Go.Deep
open Vi
theorem own:ownKnob Tryz.prog.godebug=none:=by kernel_rfl
theorem Tryz.laidOut:laidOutB Tryz.prog=true:=by kernel_rfl
theorem fields26':∃f0 f1:Field,Tryz.prog.underlying 26=some (.struct #[f0,f1])∧(f0.type=4∧f0.offset=0)∧f1.type=2∧f1.offset=1:=⟨_,_,Tryz.underlying26,⟨rfl,rfl⟩,rfl,rfl⟩
theorem fields29':∃f0 f1 f2 f3:Field,Tryz.prog.underlying 29=some (.struct #[f0,f1,f2,f3])∧(f0.type=2∧f0.offset=0)∧(f1.type=4∧f1.offset=1)∧(f2.type=3∧f2.offset=2)∧f3.type=27∧f3.offset=3:=⟨_,_,_,_,Tryz.underlying29,⟨rfl,rfl⟩,⟨rfl,rfl⟩,⟨rfl,rfl⟩,rfl,rfl⟩
def memD {H:Type} (m:Bool×Int):DataW H:= .agg [.lit (.bool m.1),.lit (.int .i64 m.2)]
theorem two_of {α:Type} {l:List α} (h:l.length=2):∃a b,l= [a,b]:=by
 match l,h with
 | [a,b],_=>exact ⟨a,b,rfl⟩
theorem four_of {α:Type} {l:List α} (h:l.length=4):∃a b c d,l= [a,b,c,d]:=by
 match l,h with
 | [a,b,c,d],_=>exact ⟨a,b,c,d,rfl⟩
theorem three_then {α:Type} {l:List α} {n:Nat} (h:l.length=n+3):∃a b c r,l=a::b::c::r:=by
 match l,h with
 | a::b::c::r,_=>exact ⟨a,b,c,r,rfl⟩
 | [],h=>simp at h
 | [_],h=>simp at h
 | [_,_],h=>simp at h
theorem mem_cells {H:Type} {enc:TypeId×Value→H} {W:World} {he:Bool} {fuel:Nat} {cs:List Value} {x:DataW H×List MemPlace} (h:DataW.trod enc Tryz.prog W 0 (fun _=>true) he fuel 26 cs=some x):∃m:Bool×Int,cs=QO m∧I64 m.2∧x.1=memD m:=by
 obtain⟨f0,f1,hu,⟨t0,o0⟩,t1,o1⟩:=fields26'
 obtain⟨xs,n,_,ex,hl,hlen,hf⟩:=DataW.trod_struct hu h
 obtain⟨y0,y1,rfl⟩:=two_of hlen
 have c2:Tryz.prog.cellsOf 2=1:=by kernel_rfl
 have c4:Tryz.prog.cellsOf 4=1:=by kernel_rfl
 have c26:Tryz.prog.cellsOf 26=2:=by kernel_rfl
 have h0:=hf 0 f0 rfl
 have h1:=hf 1 f1 rfl
 rw [t0,o0,c4] at h0
 rw [t1,o1,c2] at h1
 rw [c26] at hl
 obtain⟨a0,a1,rfl⟩:=two_of hl
 obtain⟨v0,e0,d0⟩:=DataW.trod_bool Tryz.underlying4 h0
 obtain⟨v1,e1,d1,w1⟩:=DataW.trod_int Tryz.underlying2 h1
 simp at e0 e1 d0 d1
 subst e0 e1
 refine⟨(v0,v1),rfl,bounds_i64 w1,?_⟩
 rw [ex,d0,d1];rfl
set_option maxRecDepth 100000 in
theorem mems_open {H:Type} {enc:TypeId×Value→H} {W:World} {he:Bool} {fuel:Nat} {cs:List Value} {x:DataW H×List MemPlace} (h:DataW.trod enc Tryz.prog W 0 (fun _=>true) he fuel 27 cs=some x):∃ms:List (Bool×Int),cs=Zb ms∧ms.length=8∧(∀m∈ms,I64 m.2)∧x.1= .agg (ms.map memD):=by
 obtain⟨xs,m,_,ex,hl,hlen,hel⟩:=DataW.trod_array Tryz.underlying27 h
 have c26:Tryz.prog.cellsOf 26=2:=by kernel_rfl
 have c27:Tryz.prog.cellsOf 27=16:=by kernel_rfl
 rw [c27] at hl
 have hch:∀i,i<8→∃q:Bool×Int,(cs.drop (i*2)).take 2=QO q∧I64 q.2∧∀y,xs[i]?=some y→y.1=memD q:=by
   intro i hi
   have hE:=hel i hi
   rw [c26,List.getElem?_eq_getElem (by omega)] at hE
   obtain⟨q,h1,h2,h3⟩:=mem_cells hE
   refine⟨q,h1,h2,fun y hy=> ?_⟩
   have:xs[i]'(by omega)=y:=by rw [List.getElem?_eq_getElem (by omega)] at hy;exact Option.some.inj hy
   rw [← this]
   simpa using h3
 obtain⟨X,hX⟩:=choose_lt hch
 refine⟨(List.range 8).map X,?_,by simp,?_,?_⟩
 · have hsplit:∀(k:Nat) (l:List Value),l.length=k*2→(∀i,i<k→(l.drop (i*2)).take 2=QO (X (8-k+i)))→k≤8→l=Zb ((List.range k).map (fun i=>X (8-k+i))):=by
     intro k
     induction k with
     | zero=>intro l hl _ _;rw [List.length_eq_zero_iff.1 (by omega:l.length=0)];rfl
     | succ k ih=>
       intro l hl hh hk
       match l,hl with
       | a::b::l,hl=>
         have h0:=hh 0 (by omega)
         simp at h0
         have:=ih l (by simp at hl;omega) (fun i hi=>by
           have:=hh (i+1) (by omega)
           rw [show (i+1)*2=i*2+1+1 by omega,List.drop_succ_cons,List.drop_succ_cons] at this
           rw [this,show 8-(k+1)+(i+1)=8-k+i by omega]) (by omega)
         rw [List.range_succ_eq_map,List.map_cons,List.map_map,memsC_cons,this]
         have he:(fun i=>X (8-k+i))=(fun i=>X (8-(k+1)+i))∘Nat.succ:=by
           funext i
           show X _=X _
           congr 1
           simp only [Nat.succ_eq_add_one]
           omega
         rw [he]
         have h1: [a,b]=QO (X (8-(k+1))):=by rw [show 8-(k+1)=7-k by omega];exact h0
         unfold QO at h1
         injection h1 with h1 h2
         injection h2 with h2 _
         rw [h1,h2]
         rfl
       | [_],hl=>simp at hl;omega
       | [],hl=>simp at hl
   have:=hsplit 8 cs (by omega) (fun i hi=>by rw [show 8-8+i=i by omega];exact(hX i hi).1) (Nat.le_refl _)
   simpa using this
 · intro m hm
   simp only [List.mem_map,List.mem_range] at hm
   obtain⟨i,hi,rfl⟩:=hm
   exact(hX i hi).2.1
 · rw [ex]
   show DataW.agg _=_
   congr 1
   apply List.ext_getElem?
   intro i
   by_cases hi:i<8
   · have:=(hX i hi).2.2 (xs[i]'(by omega)) (List.getElem?_eq_getElem (by omega))
     simp [hi,this,show i<xs.length by omega]
   · rw [List.getElem?_eq_none (by simp;omega),List.getElem?_eq_none (by simp;omega)]
def vwD {H:Type} (v:Vw):DataW H:= .agg [.lit (.int .i64 v.nu),.lit (.bool v.op),.lit (.int .i64 v.fd),.agg (v.ms.map memD)]
theorem vw_cells {H:Type} {enc:TypeId×Value→H} {W:World} {he:Bool} {fuel:Nat} {cs:List Value} {x:DataW H×List MemPlace} (h:DataW.trod enc Tryz.prog W 0 (fun _=>true) he fuel 29 cs=some x):∃v:Vw,cs=vwC v∧v.Ok∧x.1=vwD v:=by
 obtain⟨f0,f1,f2,f3,hu,⟨t0,o0⟩,⟨t1,o1⟩,⟨t2,o2⟩,t3,o3⟩:=fields29'
 obtain⟨xs,n,_,ex,hl,hlen,hf⟩:=DataW.trod_struct hu h
 obtain⟨y0,y1,y2,y3,rfl⟩:=four_of hlen
 have c2:Tryz.prog.cellsOf 2=1:=by kernel_rfl
 have c3:Tryz.prog.cellsOf 3=1:=by kernel_rfl
 have c4:Tryz.prog.cellsOf 4=1:=by kernel_rfl
 have c27:Tryz.prog.cellsOf 27=16:=by kernel_rfl
 have c29:Tryz.prog.cellsOf 29=19:=by kernel_rfl
 have h0:=hf 0 f0 rfl
 have h1:=hf 1 f1 rfl
 have h2:=hf 2 f2 rfl
 have h3:=hf 3 f3 rfl
 rw [t0,o0,c2] at h0
 rw [t1,o1,c4] at h1
 rw [t2,o2,c3] at h2
 rw [t3,o3,c27] at h3
 rw [c29] at hl
 obtain⟨a0,a1,a2,rs,rfl⟩:=three_then (n:=16) hl
 obtain⟨v0,e0,d0,w0⟩:=DataW.trod_int Tryz.underlying2 h0
 obtain⟨v1,e1,d1⟩:=DataW.trod_bool Tryz.underlying4 h1
 obtain⟨v2,e2,d2,w2⟩:=DataW.trod_int Tryz.underlying3 h2
 obtain⟨ms,e3,hms,hme,d3⟩:=mems_open h3
 have hrl:rs.length=16:=by simpa using hl
 simp at e0 e1 e2 d0 d1 d2 d3
 have e3':rs=Zb ms:=by
   have:(a0::a1::a2::rs).drop 3=rs:=rfl
   rw [this,List.take_of_length_le (by omega)] at e3
   exact e3
 subst e0 e1 e2 e3'
 refine⟨⟨v0,v1,v2,ms⟩,rfl,⟨bounds_i64 w0,bounds_i64 w2,hms,hme⟩,?_⟩
 rw [ex]
 show DataW.agg _=_
 simp [d0,d1,d2,d3,vwD]
theorem global0 : Tryz.prog.globalNamed "millpond/view.first" = some 0 := by kernel_rfl
theorem global0t:(Tryz.prog.globals[0]?).map (·.type)=some 29:=by kernel_rfl
theorem memD_inj {H:Type} :∀ {a b:List (Bool×Int)},(a.map (memD (H:=H)))=b.map memD→a=b:=by
 intro a
 induction a with
 | nil=>intro b h;cases b with
   | nil=>rfl
   | cons y b=>simp at h
 | cons x a ih=>
   intro b h
   cases b with
   | nil=>simp at h
   | cons y b=>
     simp only [List.map_cons,List.cons.injEq] at h
     obtain⟨h1,h2⟩:=h
     simp only [memD,DataW.agg.injEq,List.cons.injEq,DataW.lit.injEq,Lit.bool.injEq,Lit.int.injEq,true_and,and_true] at h1
     rw [ih h2,Prod.ext h1.1 h1.2]
theorem first_of {W : World} (h : laidMetH Tryz.prog [("millpond/view.first", Rows.laid_millpond_view_first)] W) : First W := by
 rw [MakeChecks.laidMetH_plain _ _ _ (by kernel_rfl)] at h
 obtain⟨ps,⟨g,t,cs,fuel,p,q,hg,ht,hv,hd,_,_⟩,_,_⟩:=h
 obtain rfl:0=g:=Option.some.inj (global0.symm.trans hg)
 obtain rfl:29=t:=Option.some.inj (global0t.symm.trans ht)
 obtain⟨V,e,_,hx⟩:=vw_cells hd
 have hV:V=fv:=by
   have h1:vwD V=vwD (H:=Unit) fv:=hx.symm
   simp only [vwD,DataW.agg.injEq,List.cons.injEq,DataW.lit.injEq,Lit.bool.injEq,Lit.int.injEq,true_and,and_true] at h1
   obtain⟨h2,h3,h4,h5⟩:=h1
   have:=memD_inj h5
   cases V
   simp_all [fv]
 subst hV
 unfold World.var? at hv
 rw [global0] at hv
 simp only [Option.bind_some] at hv
 split at hv
 · rename_i cs' t p' hh
   obtain rfl:=Option.some.inj hv
   refine⟨fun i v hi=> ?_,lt_of_block hh⟩
   rw [Nat.zero_add,cell_of_block hh,← Array.getElem?_toList,e]
   exact hi
 · cases hv
open Go.ChangeShapes Go.WideShapes Go.ChangeAt Go.RowKit Go.Joins Go.Deep
theorem array5 {α:Type} {cs:Array α} (h:cs.size=5):∃c0 c1 c2 c3 c4,cs= #[c0,c1,c2,c3,c4]:=by
 obtain⟨l⟩:=cs
 match l,h with
 | [c0,c1,c2,c3,c4],_=>exact ⟨c0,c1,c2,c3,c4,rfl⟩
section
variable {H:Type} {enc:TypeId×Value→H} {P:Program} {w:World} {base:Nat} {spare:TypeId→Bool} {held:Bool}
theorem trod_struct5 {t:TypeId} {f0 f1 f2 f3 f4:Field} {fuel:Nat} {cs:List Value} {x:DataW H×List MemPlace} (ht:P.underlying t=some (.struct #[f0,f1,f2,f3,f4])) (h:DataW.trod enc P w base spare held fuel t cs=some x):
   ∃y0 y1 y2 y3 y4 n,DataW.trod enc P w base spare held n f0.type ((cs.drop f0.offset).take (P.cellsOf f0.type))=some y0∧
     DataW.trod enc P w base spare held n f1.type ((cs.drop f1.offset).take (P.cellsOf f1.type))=some y1∧DataW.trod enc P w base spare held n f2.type ((cs.drop f2.offset).take (P.cellsOf f2.type))=some y2∧
     DataW.trod enc P w base spare held n f3.type ((cs.drop f3.offset).take (P.cellsOf f3.type))=some y3∧DataW.trod enc P w base spare held n f4.type ((cs.drop f4.offset).take (P.cellsOf f4.type))=some y4:=by
 obtain⟨xs,n,_,rfl,hl,hlen,hf⟩:=DataW.trod_struct ht h
 match xs,hlen with
 | [y0,y1,y2,y3,y4],_=>exact ⟨y0,y1,y2,y3,y4,n,by simpa using hf 0 f0 rfl,by simpa using hf 1 f1 rfl,by simpa using hf 2 f2 rfl,by simpa using hf 3 f3 rfl,by simpa using hf 4 f4 rfl⟩
theorem open_agg5 {r:Reach} {b0:Nat} {t:TypeId} {f0 f1 f2 f3 f4:Field} {v:Value} {d:DataW H} {p:List MemPlace} (hs:P.underlying t=some (.struct #[f0,f1,f2,f3,f4])) (hone:oneCellFields P #[f0,f1,f2,f3,f4]=true) (hC:P.cellsOf t=5)
   (hv:Value.okWide P w r b0 t v) (h:DataW.Trod enc P w base spare held t v d p):
   ∃(v0 v1 v2 v3 v4:Value) (y0 y1 y2 y3 y4:DataW H×List MemPlace) (n:Nat),v= .agg #[v0,v1,v2,v3,v4]∧
     DataW.trod enc P w base spare held n f0.type [v0]=some y0∧DataW.trod enc P w base spare held n f1.type [v1]=some y1∧DataW.trod enc P w base spare held n f2.type [v2]=some y2∧DataW.trod enc P w base spare held n f3.type [v3]=some y3∧DataW.trod enc P w base spare held n f4.type [v4]=some y4:=by
 obtain⟨cs,rfl,hsz⟩:=okWide_struct hs hv
 obtain⟨c0,c1,c2,c3,c4,rfl⟩:=array5 (hsz.trans hC)
 obtain⟨fuel,hf⟩:=h
 obtain⟨y0,y1,y2,y3,y4,n,h0,h1,h2,h3,h4⟩:=trod_struct5 hs hf
 obtain⟨o0,k0⟩:=hone_of hone 0 f0 rfl
 obtain⟨o1,k1⟩:=hone_of hone 1 f1 rfl
 obtain⟨o2,k2⟩:=hone_of hone 2 f2 rfl
 obtain⟨o3,k3⟩:=hone_of hone 3 f3 rfl
 obtain⟨o4,k4⟩:=hone_of hone 4 f4 rfl
 exact⟨c0,c1,c2,c3,c4,y0,y1,y2,y3,y4,n,rfl,by simpa [Value.cells,o0,k0] using h0,by simpa [Value.cells,o1,k1] using h1,by simpa [Value.cells,o2,k2] using h2,by simpa [Value.cells,o3,k3] using h3,by simpa [Value.cells,o4,k4] using h4⟩
end
set_option maxRecDepth 100000 in
theorem job_open {H:Type} {enc:TypeId×Value→H} {W:World} {b0:Nat} {r:Reach} {v:Value} {d:DataW H} {p:List MemPlace}
   (hv:Value.okWide Tryz.prog W r b0 23 v) (h:DataW.Trod enc Tryz.prog W 0 (fun _=>true) true 23 v d p):∃j:Ar.Job,v=Qd (Ar.Qf j):=by
 obtain⟨v0,v1,v2,v3,v4,y0,y1,y2,y3,y4,k,rfl,h0,h1,h2,h3,h4⟩:=open_agg5 Tryz.underlying23 (by kernel_rfl) (by kernel_rfl) hv h
 obtain⟨a,e0,_,_⟩:=DataW.trod_int Tryz.underlying3 h0
 obtain⟨b,e1,_,_⟩:=DataW.trod_int Tryz.underlying3 h1
 obtain⟨c,e2,_,_⟩:=DataW.trod_int Tryz.underlying3 h2
 obtain⟨d,e3,_,_⟩:=DataW.trod_int Tryz.underlying3 h3
 obtain⟨e,e4,_,_⟩:=DataW.trod_int Tryz.underlying3 h4
 simp only [List.cons.injEq,and_true] at e0 e1 e2 e3 e4
 subst e0 e1 e2 e3 e4
 exact⟨⟨a,b,c,d,e⟩,rfl⟩
theorem spot_none {w:World} {a:Addr} {v:Value} (h:w.cell? a=some v):a=⟨a.block,a.off,none⟩:=by
 have:a.spot=none:=by
   unfold World.cell? at h
   split at h
   · cases hs:a.spot with
     | none=>rfl
     | some s=>simp [hs] at h
   · cases h
 cases a;simp_all
theorem rows_open {α:Type} [Inhabited α] (C:α→List Value) (Ok:α→Prop) (m T E:Nat) (hT:Tryz.prog.underlying T=some (.slice E)) (hE:Tryz.prog.cellsOf E=m) (h0:∀x,Ok x→∃u,(C x)[0]?=some u) {H:Type} {enc:TypeId×Value→H} {W:World} (hcells:∀(fuel:Nat) (cs:List Value) (x:DataW H×List MemPlace),DataW.trod enc Tryz.prog W 0 (fun _=>true) true fuel E cs=some x→∃q,cs=C q∧Ok q) {fuel:Nat} {v:Value} {x:DataW H×List MemPlace}
   (h:DataW.trod enc Tryz.prog W 0 (fun _=>true) true fuel T [v]=some x):
   ∃(ao:Option Addr) (c:Nat) (l:List α),v= .slice ao l.length c∧(ao=none→l= []∧c=0)∧RowS C m W ao l∧(∀r∈l,Ok r):=by
 rcases open_slice hT h with ⟨hcs,hx⟩ | ⟨a,len,cap,m',n,D,Pl,hcs,_,hl,_,hm,hx,hel⟩
 · cases hcs
   exact⟨none,0,[],rfl,fun _=>⟨rfl,rfl⟩,fun i x hx=>(by simp at hx),fun x hx=>(by cases hx)⟩
 · cases hcs
   simp only [if_true] at hm
   have hch:∀i,i<len→∃q:α,(∀c u,(C q)[c]?=some u→W.cell? (a.add (i*m+c))=some u)∧Ok q:=by
     intro i hi
     obtain⟨cs',h1,h2⟩:=hel i (by omega)
     rw [hE] at h1
     obtain⟨_,hlen,hcell⟩:=World.cells?_some h1
     obtain⟨q,rfl,hq⟩:=hcells _ _ _ h2
     refine⟨q,?_,hq⟩
     intro c u hu
     have hc:c<m:=by have:=(List.getElem?_eq_some_iff.1 hu).1;omega
     have:=hcell c hc
     rw [add_add] at this
     rw [this]
     exact hu
   obtain⟨X,hX⟩:=choose_lt hch
   refine⟨some a,cap,(List.range len).map X,by simp,(fun h=>by cases h),?_,?_⟩
   · intro i x hi
     have hil:i<len:=by have:=(List.getElem?_eq_some_iff.1 hi).1;simpa using this
     obtain rfl:X i=x:=by simpa [hil] using hi
     obtain⟨u0,hu0⟩:=h0 _ (hX 0 (by omega)).2
     have h0:=(hX 0 (by omega)).1 0 u0 hu0
     rw [Nat.zero_mul] at h0
     have ha:=spot_none (show W.cell? a=some _ from h0)
     refine⟨a.block,a.off,by rw [← ha],fun c u hu=> ?_⟩
     have:=(hX i hil).1 c u hu
     rw [ha,Addr.add_lit,← Nat.add_assoc] at this
     exact this
   · intro x hx
     simp only [List.mem_map,List.mem_range] at hx
     obtain⟨i,hi,rfl⟩:=hx
     exact(hX i hi).2
theorem fields38':∃f0 f1 f2 f3 f4 f5:Field,Tryz.prog.underlying 38=some (.struct #[f0,f1,f2,f3,f4,f5])∧(f0.type=3∧f0.offset=0)∧(f1.type=3∧f1.offset=1)∧(f2.type=2∧f2.offset=2)∧(f3.type=3∧f3.offset=3)∧(f4.type=2∧f4.offset=4)∧f5.type=2∧f5.offset=5:=⟨_,_,_,_,_,_,Tryz.underlying38,⟨rfl,rfl⟩,⟨rfl,rfl⟩,⟨rfl,rfl⟩,⟨rfl,rfl⟩,⟨rfl,rfl⟩,rfl,rfl⟩
theorem six_of {α:Type} {l:List α} (h:l.length=6):∃a b c d e f,l= [a,b,c,d,e,f]:=by
 match l,h with
 | [a,b,c,d,e,f],_=>exact ⟨a,b,c,d,e,f,rfl⟩
instance : Inhabited S6:=⟨⟨0,0,0,0,0,0⟩⟩
set_option maxRecDepth 100000 in
theorem s6_cells {H:Type} {enc:TypeId×Value→H} {W:World} (fuel:Nat) (cs:List Value) (x:DataW H×List MemPlace) (h:DataW.trod enc Tryz.prog W 0 (fun _=>true) true fuel 38 cs=some x):∃q:S6,cs=q.C∧True:=by
 obtain⟨f0,f1,f2,f3,f4,f5,hu,⟨t0,o0⟩,⟨t1,o1⟩,⟨t2,o2⟩,⟨t3,o3⟩,⟨t4,o4⟩,t5,o5⟩:=fields38'
 obtain⟨xs,n,_,ex,hl,hlen,hf⟩:=DataW.trod_struct hu h
 obtain⟨y0,y1,y2,y3,y4,y5,rfl⟩:=six_of hlen
 have c2:Tryz.prog.cellsOf 2=1:=by kernel_rfl
 have c3:Tryz.prog.cellsOf 3=1:=by kernel_rfl
 have c38:Tryz.prog.cellsOf 38=6:=by kernel_rfl
 have h0:=hf 0 f0 rfl
 have h1:=hf 1 f1 rfl
 have h2:=hf 2 f2 rfl
 have h3:=hf 3 f3 rfl
 have h4:=hf 4 f4 rfl
 have h5:=hf 5 f5 rfl
 rw [t0,o0,c3] at h0
 rw [t1,o1,c3] at h1
 rw [t2,o2,c2] at h2
 rw [t3,o3,c3] at h3
 rw [t4,o4,c2] at h4
 rw [t5,o5,c2] at h5
 rw [c38] at hl
 obtain⟨a0,a1,a2,a3,a4,a5,rfl⟩:=six_of hl
 obtain⟨v0,e0,_,_⟩:=DataW.trod_int Tryz.underlying3 h0
 obtain⟨v1,e1,_,_⟩:=DataW.trod_int Tryz.underlying3 h1
 obtain⟨v2,e2,_,_⟩:=DataW.trod_int Tryz.underlying2 h2
 obtain⟨v3,e3,_,_⟩:=DataW.trod_int Tryz.underlying3 h3
 obtain⟨v4,e4,_,_⟩:=DataW.trod_int Tryz.underlying2 h4
 obtain⟨v5,e5,_,_⟩:=DataW.trod_int Tryz.underlying2 h5
 simp at e0 e1 e2 e3 e4 e5
 subst e0 e1 e2 e3 e4 e5
 exact⟨⟨v0,v1,v2,v3,v4,v5⟩,rfl,trivial⟩
theorem s6_open {H:Type} {enc:TypeId×Value→H} {W:World} {r:Reach} {b0:Nat} {v:Value} {d:DataW H} {p:List MemPlace} (hv:Value.okWide Tryz.prog W r b0 38 v) (h:DataW.Trod enc Tryz.prog W 0 (fun _=>true) true 38 v d p):∃q:S6,v=Qd q.C:=by
 obtain⟨f0,f1,f2,f3,f4,f5,hu,_⟩:=fields38'
 obtain⟨cs,rfl,hsz⟩:=okWide_struct hu hv
 obtain⟨fuel,hf⟩:=h
 obtain⟨l,e,_⟩:=s6_cells _ _ _ hf
 refine⟨l,?_⟩
 have:cs.toList=l.C:=e
 show Value.agg cs= .agg l.C.toArray
 rw [← this]
theorem steps_open {H:Type} {enc:TypeId×Value→H} {W:World} {fuel:Nat} {v:Value} {x:DataW H×List MemPlace} (h:DataW.trod enc Tryz.prog W 0 (fun _=>true) true fuel 24 [v]=some x):
   ∃(ao:Option Addr) (c:Nat) (l:List S6),v= .slice ao l.length c∧RowS S6.C 6 W ao l:=by
 obtain⟨ao,c,l,h1,_,h3,_⟩:=rows_open S6.C (fun _=>True) 6 24 38 Tryz.underlying24 (by kernel_rfl) (fun x _=>⟨_,rfl⟩) s6_cells h
 exact⟨ao,c,l,h1,h3⟩
end Go.Proofs.YtcfflbafclmheaaGreatDoor
