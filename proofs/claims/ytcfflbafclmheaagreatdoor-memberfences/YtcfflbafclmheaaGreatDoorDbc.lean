/-
  Texts of the walks of member, shortened.
-/
import Derived.Test.YtcfflbafclmheaaGreatDoorDbb
set_option maxRecDepth 100000
set_option maxHeartbeats 100000000
set_option linter.unusedSimpArgs false
namespace Go.Proofs.YtcfflbafclmheaaGreatDoor
open Go.RowKit
open Le (Mm Qh Qo)
section
variable {ops:Array Oper} {rest:List Oper} {op o:Oper} {a:Act} {w:World} {K:Act→World→Prop} {Q:Exit→Act→World→Prop}
theorem o_fldM0 (x:Operand) (ho:o.op= .fieldAddr 26 x 0) (b i:Nat) (hx:a.eval x= .pointer (some ⟨b,i,none⟩)) (h:K (a.put o.dst (.pointer (some ⟨b,i,none⟩))) w):o.wp Tryz.prog a w K Q:=by
 unfold Oper.wp execOp;simp only [ho,hx];simp [go_sem];exact h
theorem o_ld4 (x:Operand) (ho:o.op= .load 4 x) (p:Addr) (v:Value) (hx:a.eval x= .pointer (some p)) (hc:w.cell? p=some v) (h:K (a.put o.dst v) w):o.wp Tryz.prog a w K Q:=by
 unfold Oper.wp execOp;simp only [ho,hx];simp [go_sem,hc];exact h
end
theorem guard27:Tryz.prog.eqGuardType Tryz.prog.depth 27=false:=by kernel_rfl
theorem guard26m:Tryz.prog.eqGuardType Tryz.prog.depth 26=false:=by kernel_rfl
theorem eq27 (W:World) (s t:List (Bool×Int)) (hs:s.length=8) (ht:t.length=8):(Op.equal 27 (Qd (Vi.QP s)) (Qd (Vi.QP t))).run Tryz.prog W= .ok (decide (s=t)) W:=Vi.equal24 W 9997 s t hs ht
theorem eq26m (W:World) (m q:Bool×Int):(Op.equal 26 (Qd (Vi.QD m)) (Qd (Vi.QD q))).run Tryz.prog W= .ok (decide (m=q)) W:=Vi.equal23 W 9998 m q
theorem Pz.less {b g r sg eg:Nat} {D E:Dv.Dev} {w W:World} {bs cs:List (Nat×Nat×List Value)} (h:Pz b g r sg eg D E w W bs) (hs:List.Sublist cs bs):Pz b g r sg eg D E w W cs:=
 ⟨h.kept,h.dv,h.rv,h.fst,fun x hx=>h.blk x (hs.subset hx),fun x hx=>h.own x (hs.subset hx),h.nd.sublist (hs.map _),fun x hx=>h.ne x (hs.subset hx),h.ap,h.z,h.wz⟩
theorem view_of {b g r sg eg:Nat} {D:Dv.Dev} {J:Ar.Job} (hf:Fits D J) (h0:(oV D).2=0) (W:World) (h:P2 b g r sg eg D D W):Calls Tryz.prog 13 #[P0 b,Qd (Ar.Qf J)] W fun x w'=>x= .returned (.tuple #[Qd (Vi.vwC (oV D).1),.int .i64 0])∧Kept [] W w':=by
 have h9:=view13 (P0 b) (some D) J W (dq_of h.dv) h.fst;rw [mview_eq hf,h0] at h9;exact h9
theorem Zk {W:World} {q:Nat} {v:Vi.Vw} (hB:Blk W q 29 (Vi.vwC v)) {k:Nat} {m:Bool×Int} (hm:v.ms[k]?=some m):W.rangeAt q (3+k*2) (Vi.QD m):=by
 obtain⟨x0,x1⟩:=Vi.vwC_at hm;refine hB.rangeIn _ fun i hi=> ?_;rw [Nat.mul_comm] at x0 x1
 match i,hi with
 | 0,_=>exact x0
 | 1,_=>exact x1
 | n+2,hi=>simp [Vi.QD] at hi;omega
theorem fences_a (J:Ar.Job) (ao:Option Addr) (c:Nat) (X:List S6) (w:World) (hF:Vi.First w) (hm:J.may=false):Calls Tryz.prog 4 #[Qd (Ar.Qf J),.slice ao X.length c] w fun x w'=>x= .returned (.bool true)∧Kept [] w w':=by
 have P8:=hide (fun W=>rmay8 J W);rw [hm] at P8;have PK:=hide (fun W (hk:Kept [] w W)=>known9 W (hF.kept hk));go_enter Tryz.func4,Tryz.ntmps4
 have M:Hid (Mm [] w w []):=hide Mm.init;go_wp2_with (first |(refine Qp rfl (.tmp 0) rfl (Ar.Qf J) rfl ?_;intro W1 b1 e1 B1 K1;replace M:=hide ((Qa M).new e1 B1 K1);clear e1 B1 K1;refine Stp.go ?_))
 constructor
 go_wp2_with (first |(refine Qg Zv rfl (.tmp 2) rfl b1 0 rfl (Ar.Qf J) rfl ((Qa M).at 0 _ rfl).range ?_;refine Stp.go ?_))
 constructor
 go_wp2_with (first |(go_at_call 8;refine(Qa P8 _).mono ?_;rintro e W2 ⟨rfl,K2⟩;replace M:=hide ((Qa M).step K2);clear K2;refine Stp.go ?_))
 constructor
 go_wp2_with (first |(go_at_call 9;refine(Qa PK _ (Qa M).kept).mono ?_;rintro e W3 ⟨rfl,K3⟩;replace M:=hide ((Qa M).step K3);clear K3;refine Stp.go ?_))
 constructor
 go_wp2_with fail
 go_ret
 exact⟨rfl,(Qa M).kept⟩
theorem fences_b (J:Ar.Job) (ao:Option Addr) (c:Nat) (X:List S6) (w:World) (hF:Vi.First w) (hm:J.may=true) (hl:decide ((80:Int)<(X.length:Int))=true):Calls Tryz.prog 4 #[Qd (Ar.Qf J),.slice ao X.length c] w fun x w'=>x= .returned (.bool true)∧Kept [] w w':=by
 have P8:=hide (fun W=>rmay8 J W);rw [hm] at P8;have PK:=hide (fun W (hk:Kept [] w W)=>known9 W (hF.kept hk));go_enter Tryz.func4,Tryz.ntmps4
 have M:Hid (Mm [] w w []):=hide Mm.init;go_wp2_with (first |(refine Qp rfl (.tmp 0) rfl (Ar.Qf J) rfl ?_;intro W1 b1 e1 B1 K1;replace M:=hide ((Qa M).new e1 B1 K1);clear e1 B1 K1;refine Stp.go ?_))
 constructor
 go_wp2_with (first |(refine Qg Zv rfl (.tmp 2) rfl b1 0 rfl (Ar.Qf J) rfl ((Qa M).at 0 _ rfl).range ?_;refine Stp.go ?_))
 constructor
 go_wp2_with (first |(go_at_call 8;refine(Qa P8 _).mono ?_;rintro e W2 ⟨rfl,K2⟩;replace M:=hide ((Qa M).step K2);clear K2;refine Stp.go ?_))
 constructor
 go_wp2_with (first |(go_at_call 9;refine(Qa PK _ (Qa M).kept).mono ?_;rintro e W3 ⟨rfl,K3⟩;replace M:=hide ((Qa M).step K3);clear K3;refine Stp.go ?_))
 constructor
 go_wp2_with fail
 go_ret
 exact⟨rfl,(Qa M).kept⟩
theorem fences_c (J:Ar.Job) (ao:Option Addr) (c:Nat) (X:List S6) (w:World) (hF:Vi.First w) (hm:J.may=true) (hl:decide ((80:Int)<(X.length:Int))=false) (hX:RowS S6.C 6 w ao X):Calls Tryz.prog 4 #[Qd (Ar.Qf J),.slice ao X.length c] w fun x w'=>x= .returned (.bool true)∧Kept [] w w':=by
 have P8:=hide (fun W=>rmay8 J W);rw [hm] at P8;have HX:=hide hX;have hlen:(X.length:Int)≤80:=by have:=of_decide_eq_false hl;omega
 have HG:=hide (gd_new hm);have HJB:=hide (job_b hm);clear hX;go_enter Tryz.func4,Tryz.ntmps4
 have M:Hid (Mm [] w w []):=hide Mm.init;go_wp2_with (first |(refine Qp rfl (.tmp 0) rfl (Ar.Qf J) rfl ?_;intro W1 b1 e1 B1 K1;replace M:=hide ((Qa M).new e1 B1 K1);clear e1 B1 K1;refine Stp.go ?_))
 constructor
 go_wp2_with (first |(refine Qg Zv rfl (.tmp 2) rfl b1 0 rfl (Ar.Qf J) rfl ((Qa M).at 0 _ rfl).range ?_;refine Stp.go ?_))
 constructor
 go_wp2_with (first |(go_at_call 8;refine(Qa P8 _).mono ?_;rintro e W2 ⟨rfl,K2⟩;replace M:=hide ((Qa M).step K2);clear K2;refine Stp.go ?_))
 constructor
 go_wp2_with (first |(refine Qg Zv rfl (.tmp 2) rfl b1 0 rfl (Ar.Qf J) rfl ((Qa M).at 0 _ rfl).range ?_;refine Stp.go ?_))
 constructor
 go_wp2_with (first |(go_at_call 10;refine(lnew10 J hm _).mono ?_;have HX1:=hide ((Qa M).at 0 _ rfl).lt;rintro e W3 ⟨b,g,rfl,hb9,hg9,hD9,K3⟩;have HS9:=hide ((Qa M).kept.size);replace M:=hide ((Qa M).step K3);have HD9:=hide hD9;have HL9:=hide hD9.lt;have HBG:Hid (w.heap.size≤b∧w.heap.size≤g):=(by have:=Qa HS9;show _∧_;omega);have HB1:Hid (b1<b∧b1<g):=(by have h9:=(Qa HX1);show _∧_;omega);clear K3 hb9 hg9 hD9;refine Stp.go ?_))
 constructor
 go_wp2_with (first |(refine Qg Zv rfl (.tmp 2) rfl b1 0 rfl (Ar.Qf J) rfl ((Qa M).at 0 _ rfl).range ?_;refine Stp.go ?_))
 constructor
 go_wp2_with (
  first
  | (go_at_call 11
     refine(newRef11 J hm _).mono ?_;rintro e W4 ⟨r,sg,eg,rfl,hr9,hR9,K4⟩;have HGE:Hid (∀x∈ [b,g,r,sg,eg],w.heap.size≤x):=by
       have q1:=Qa HBG;have q2:=(Qa M).kept.size;intro x hx;simp only [List.mem_cons,List.not_mem_nil,or_false] at hx;omega
     have HP2:P2 b g r sg eg (jdev J) (jdev J) W4:=by
       have q1:=Qa HL9;have q3:=Qa HBG;have q4:=(Qa M).kept.size;have q5:=hF.lt;exact⟨(Qa HD9).kept K4 (by simp) (by simp),hR9,hF.kept ((Qa M).kept.trans K4),⟨⟨by omega,by omega,by omega⟩,⟨by omega,by omega,by omega⟩⟩,by simp;omega⟩
     replace M:Hid (Pz b g r sg eg (jdev J) (jdev J) w W4 [(b1,23,Ar.Qf J)]):=by
       have q0:=((Qa M).at 0 _ rfl).lt;have q1:=Qa HB1;exact Pz.of ((Qa M).step K4) HP2 (fun x hx=>by simp only [List.mem_cons,List.not_mem_nil,or_false] at hx;subst hx;simp only [List.mem_cons,List.not_mem_nil,or_false];omega) hF.lt
     clear K4 hr9 hR9 HP2 HD9 HL9 HBG HB1;refine Stp.go ?_))
 constructor
 go_wp2_with (first |(refine Qg Zv rfl (.tmp 2) rfl b1 0 rfl (Ar.Qf J) rfl ((Qa M).at 0 _ rfl).range ?_;refine Stp.go ?_))
 constructor
 go_wp2_with (first |(go_at_call 13;refine(view_of (Gd.fits (Qa HG) (Qa M).dv.ok) (Qa HG).v0 _ (Qa M).p2).mono ?_;rintro e W5 ⟨rfl,K5⟩;replace M:=hide ((Qa M).step K5);clear K5;refine Stp.go ?_))
 constructor
 go_wp2_with (first |(refine QM Vi.Qn (Vi.vwC Vi.zv) rfl Vi.QE 7 rfl rfl rfl (.tmp 34) rfl rfl rfl (Vi.vwC (oV (jdev J)).1) (Vi.Qk (getV_len _)) (Vi.Ql _) (by kernel_rfl) (by kernel_rfl) ?_;intro W6 b6 e6 B6 K6;replace M:=hide ((Qa M).new e6 B6 K6);clear e6 B6 K6;refine Stp.go ?_))
 constructor
 go_wp2_with fail
 clear hm;go_loopw [9] (fun xi wr=>∃(j:Nat) (D:Dv.Dev),j≤X.length∧xi= .int .i64 j∧Hid (Gd D J j)∧Hid (Pz b g r sg eg D D w wr [(b1,23,Ar.Qf J),(b6,29,Vi.vwC (oV D).1)])) (fun i _=>X.length-(intOf i).toNat)
 case atStart=>exact ⟨0,jdev J,by omega,rfl,HG,M⟩
 case round=>
  clear M HG;obtain⟨j,D,hj,rfl,HG,M⟩:=hrel;by_cases hlt:j<X.length
  · have hd:decide ((j:Int)<(X.length:Int))=true:=by simp;omega
    obtain⟨s,hs⟩:∃s,X[j]?=some s:=⟨_,List.getElem?_eq_getElem hlt⟩;obtain⟨sb,so,hao,hcs⟩:=Qa HX j s hs;subst hao;have HCS:Hid (w.rangeAt sb (so+j*6) s.C):=fun i u hu=>hcs i u hu;have HLT:=hide hlt;have hjI:(j:Int)≤80:=by omega
    have PD:=hide (fun W (h:P2 b g r sg eg D D W)=>does12 b g r sg eg D J s W h ((Qa HG).fits h.dv.ok) ((Qa HG).six (by omega)));have hstep:=nxt_gd (Qa HG) (Qa M).dv.ok (by omega) s;have HVF:=hide (oV_okD (Qa M).dv.ok);have HVM:=hide (Qa HG).vmay;obtain⟨E,hE⟩:∃E,E=nxt D J s:=⟨_,rfl⟩;rw [← hE] at PD hstep;obtain⟨hG2,hCg⟩:=hstep;have HG2:=hide hG2;have PV2:=hide (fun W (h:P2 b g r sg eg E E W)=>view_of (hG2.fits h.dv.ok) hG2.v0 W h);clear hE hcs hs hG2;obtain⟨v,hv⟩:∃v,v=(oV D).1:=⟨_,rfl⟩;obtain⟨u,hu⟩:∃u,u=(oV E).1:=⟨_,rfl⟩;have HUU:=hide hu;unfold Cg at hCg;rw [← hv,← hu] at hCg;rw [← hu] at PV2;rw [← hv] at M HVF HVM;have HVL:Hid ((Vi.vwC v).length=19):=Vi.Qk (Qa HVF).len;have hul:u.ms.length=8:=by rw [hu];exact getV_len _
    have HUL:Hid ((Vi.vwC u).length=19):=Vi.Qk hul;have HU8:=hide hul;have HNU:=hide (Vi.may_nu (Qa HVM));have HCH:Hid (∀k:Nat,k<8→(v.mem k).1=true→u.mem k=v.mem k∨(v.mem k).2<E.ep k):=by
      intro k hk hi;rcases hCg with e | ⟨_,e,_⟩ | ⟨_,_,e⟩
      · left;rw [e]
      · left;rw [e];rfl
      · exact e k hk hi
    have HCG:=hide hCg;clear hv hu hul hCg;go_wp2_with (
      first
      | (go_at_call 18
         refine(Dv.copy21 b g D _ (Qa M).dv).mono ?_;rintro e W31 ⟨b9,g9,rfl,hb9,hg9,hD9,K31⟩;have HB9:Hid (b9∉ [b,g,r,sg,eg]∧g9∉ [b,g,r,sg,eg]):=by
           have q1:=(Qa M).dv.lt;have q2:=(Qa M).rv.lt;constructor <;> (simp only [List.mem_cons,List.not_mem_nil,or_false];omega)
         replace M:=hide ((Qa M).step K31);have HC:=hide hD9;clear K31 hb9 hg9 hD9;refine Stp.go ?_))
    constructor
    go_wp2_with fail
    refine wp_region_any mixed (QL 8 rfl (by kernel_rfl) [some (P0 b),some (P0 r),some (Qd (Ar.Qf J)),some (.slice (some ⟨sb,so,none⟩) X.length c),some (.int .i64 j),some (.pointer (some ⟨sb,so+j*6,none⟩)),some (Qd s.C),some (.bool true)] rfl (by kernel_rfl) (fun l vs W=>(SD W31 b g r sg eg E) (fun i=>l.getD i false) vs W) (⟨⟨rfl,rfl,rfl,Nat.le_refl _,fun _ _ _=>rfl⟩,(fun _=>⟨rfl,rfl,rfl,Nat.le_refl _,fun _ _ _=>rfl⟩),(fun h=>by cases h)⟩) ?_ ?_)
    · intro ix o' hi ho a' w2 l_ vs hls hlf hJ hout hin hdep hnot
      match ix,ho with
      | 0,ho=>
        obtain rfl:=Oj9 ho;have e0:=hout 5 (by kernel_rfl);replace e0:a'.eval (.tmp 5)=_:=e0.trans rfl;exact wp_move (.tmp 5) rfl _ e0 ⟨_,rfl,Qe rfl,Le.Qj [7] SD.loc (by omega) (by decide) hJ⟩
      | 1,ho=>
        obtain rfl:=Oj9 ho;have e0:=hout 6 (by kernel_rfl);replace e0:a'.eval (.tmp 6)=_:=e0.trans rfl;exact wp_move (.tmp 6) rfl _ e0 ⟨_,rfl,Qe rfl,Le.Qj [7] SD.loc (by omega) (by decide) hJ⟩
      | 2,ho=>
        obtain rfl:=Oj9 ho;have e0:=hout 2 (by kernel_rfl);replace e0:a'.eval (.tmp 2)=_:=e0.trans rfl;exact Qw Zv (.tmp 2) rfl b1 0 e0 (Ar.Qf J) rfl (((Qa M).at 0 _ rfl).kept hJ.1 ((Qa M).ne (b1,23,Ar.Qf J) (by simp))).range ⟨_,rfl,Qe rfl,Le.Qj [7] SD.loc (by omega) (by decide) hJ⟩
      | 3,ho=>
        obtain rfl:=Oj9 ho;have e0:=hout 1 (by kernel_rfl);replace e0:a'.eval (.tmp 1)=_:=e0.trans rfl;exact wp_move (.tmp 1) rfl _ e0 ⟨_,rfl,Qe rfl,Le.Qj [7] SD.loc (by omega) (by decide) hJ⟩
      | 4,ho=>
        obtain rfl:=Oj9 ho;have e0:=hout 9 (by kernel_rfl);replace e0:a'.eval (.tmp 9)=_:=e0.trans rfl;exact wp_move (.tmp 9) rfl _ e0 ⟨_,rfl,Qe rfl,Le.Qj [7] SD.loc (by omega) (by decide) hJ⟩
      | 5,ho=>
        obtain rfl:=Oj9 ho;have e0:a'.eval (.tmp 49)= .slice (some ⟨sb,so,none⟩) X.length c:=by have h9:=hin 3 49 (by kernel_rfl) (by kernel_rfl);exact h9.1.trans (Qc _ h9.2 rfl)
        have e1:a'.eval (.tmp 50)= .int .i64 j:=by have h9:=hin 4 50 (by kernel_rfl) (by kernel_rfl);exact h9.1.trans (Qc _ h9.2 rfl)
        exact o_idxS (.tmp 49) (.tmp 50) rfl sb so X.length c j (Qa HLT) e0 e1 ⟨_,rfl,Qe rfl,Le.Qj [7] SD.loc (by omega) (by decide) hJ⟩
      | 6,ho=>
        obtain rfl:=Oj9 ho;have e0:a'.eval (.tmp 51)= .pointer (some ⟨sb,so+j*6,none⟩):=by have h9:=hin 5 51 (by kernel_rfl) (by kernel_rfl);exact h9.1.trans (Qc _ h9.2 rfl)
        exact Qw row38 (.tmp 51) rfl sb (so+j*6) e0 s.C rfl (fun i u hu=>(kept_all ((Qa M).kept.trans hJ.1) (Qa HGE)).cell (Qa HCS i u hu) (by simp)) ⟨_,rfl,Qe rfl,Le.Qj [7] SD.loc (by omega) (by decide) hJ⟩
      | 7,ho=>
        obtain rfl:=Oj9 ho;have e0:a'.eval (.tmp 46)=P0 b:=by have h9:=hin 0 46 (by kernel_rfl) (by kernel_rfl);exact h9.1.trans (Qc _ h9.2 rfl)
        have e1:a'.eval (.tmp 47)=P0 r:=by have h9:=hin 1 47 (by kernel_rfl) (by kernel_rfl);exact h9.1.trans (Qc _ h9.2 rfl)
        have e2:a'.eval (.tmp 48)=Qd (Ar.Qf J):=by have h9:=hin 2 48 (by kernel_rfl) (by kernel_rfl);exact h9.1.trans (Qc _ h9.2 rfl)
        have e3:a'.eval (.tmp 52)=Qd s.C:=by have h9:=hin 6 52 (by kernel_rfl) (by kernel_rfl);exact h9.1.trans (Qc _ h9.2 rfl)
        refine Qq 12 _ _ rfl #[P0 b,P0 r,Qd (Ar.Qf J),Qd s.C] (by simp [e0,e1,e2,e3]) (cg12 _ _) ((Qa PD w2 ((Qa M).step (hJ.2.1 hlf)).p2).mono ?_);rintro e w3 ⟨rfl,hR3,hk3⟩;exact⟨_,rfl,_,rfl,Qe rfl,Le.QJ (by omega) ⟨hJ.1.trans hk3,(fun h=>by cases h),fun _=>hR3⟩⟩
    intro l_ vs9 V9 hl_ hJ htold;have t0:vs9 0=P0 b:=Qc _ (htold 0 (by decide)) rfl;have t1:vs9 1=P0 r:=Qc _ (htold 1 (by decide)) rfl;have t2:vs9 2=Qd (Ar.Qf J):=Qc _ (htold 2 (by decide)) rfl;have t3:vs9 3= .slice (some ⟨sb,so,none⟩) X.length c:=Qc _ (htold 3 (by decide)) rfl;have t4:vs9 4= .int .i64 j:=Qc _ (htold 4 (by decide)) rfl;have t5:vs9 5= .pointer (some ⟨sb,so+j*6,none⟩):=Qc _ (htold 5 (by decide)) rfl;have t6:vs9 6=Qd s.C:=Qc _ (htold 6 (by decide)) rfl;have t7:vs9 7= .bool true:=Qc _ (htold 7 (by decide)) rfl;rw [show (List.range 8).map vs9= [vs9 0,vs9 1,vs9 2,vs9 3,vs9 4,vs9 5,vs9 6,vs9 7] from rfl];simp only [t0,t1,t2,t3,t4,t5,t6,t7,Qz,Act.put,List.setIfInBounds_toArray,List.set_cons_succ,List.set_cons_zero];clear t0 t1 t2 t3 t4 t5 t6 t7 htold;replace M:Hid (Pz b g r sg eg E E w V9 [(b1,23,Ar.Qf J),(b6,29,Vi.vwC v)]):=hide ((Qa M).dev2 hJ.1 (hJ.2.2 (hl_ 7 (by decide))));replace HC:=hide ((Qa HC).kept hJ.1 (Qa HB9).1 (Qa HB9).2);clear hJ hl_;go_wp2_with (first |(refine Qg Zv rfl (.tmp 2) rfl b1 0 rfl (Ar.Qf J) rfl ((Qa M).at 0 _ rfl).range ?_;refine Stp.go ?_))
    constructor
    go_wp2_with (first |(go_at_call 13;refine(Qa PV2 _ (Qa M).p2).mono ?_;rintro e W41 ⟨rfl,K41⟩;replace M:=hide ((Qa M).step K41);replace HC:=hide ((Qa HC).kept K41 (by simp) (by simp));clear K41;refine Stp.go ?_))
    constructor
    go_wp2_with (first |(refine QM Vi.Qn (Vi.vwC Vi.zv) rfl Vi.QE 11 rfl rfl rfl (.tmp 58) rfl rfl rfl (Vi.vwC u) (Qa HUL) (Vi.Ql _) (by kernel_rfl) (by kernel_rfl) ?_;intro W42 b42 e42 B42 K42;replace M:=hide ((Qa M).new e42 B42 K42);replace HC:=hide ((Qa HC).kept K42 (by simp) (by simp));clear e42 B42 K42;refine Stp.go ?_))
    constructor
    rcases Qa HCG with e | ⟨hop,e,hall⟩ | ⟨hnu,huo,_⟩
    · have ev:u=v:=e;clear HCG e;subst ev;cases hop:u.op with
      | true=>
        have c0:=Qb ((Qa M).at 1 _ rfl) 0 (.int .i64 u.nu) rfl;have c2:=Qb ((Qa M).at 1 _ rfl) 2 (.int .i64 u.fd) rfl;have c3:=Qb ((Qa M).at 2 _ rfl) 0 (.int .i64 u.nu) rfl;have c5:=Qb ((Qa M).at 2 _ rfl) 2 (.int .i64 u.fd) rfl;obtain⟨hn0,hn1⟩:=Qa HNU;have hdn:decide (u.nu+1<u.nu)=false:=by simp;omega
        have c1:W42.cell? ⟨b6,1,none⟩=some (.bool true):=by have h9:=Qb ((Qa M).at 1 _ rfl) 1 (.bool u.op) rfl;rw [hop] at h9;exact h9
        have c4:W42.cell? ⟨b42,1,none⟩=some (.bool true):=by have h9:=Qb ((Qa M).at 2 _ rfl) 1 (.bool u.op) rfl;rw [hop] at h9;exact h9
        go_wp2_with (first |(refine Le.Zb Vi.row24 (.tmp 83) rfl rfl b42 3 rfl (Vi.QP u.ms) (by rw [Vi.Zu,(Qa HVF).len]) (Vi.Vw.range (v:=u) ((Qa M).at 2 _ rfl)) ?_;refine Stp.go ?_))
        constructor
        go_wp2_with (first |(refine Le.Zb Vi.row24 (.tmp 85) rfl rfl b6 3 rfl (Vi.QP u.ms) (by rw [Vi.Zu,(Qa HVF).len]) (Vi.Vw.range (v:=u) ((Qa M).at 1 _ rfl)) ?_;refine Stp.go ?_))
        constructor
        go_wp2_with (first |(refine wpNeqG 27 27 guard27 (.tmp 84) (.tmp 86) rfl rfl (Vi.QP u.ms) (Vi.QP u.ms) rfl rfl true ((eq27 _ u.ms u.ms (Qa HVF).len (Qa HVF).len).trans (by simp)) ?_;refine Stp.go ?_))
        constructor
        go_wp2_with fail
        clear c0 c1 c2 c3 c4 c5;go_loopw [13] (fun xn wr2=>∃k:Nat,(k:Int)≤J.n∧xn= .int .i64 k∧Hid (Pz b g r sg eg E E w wr2 [(b1,23,Ar.Qf J),(b6,29,Vi.vwC u),(b42,29,Vi.vwC u)])) (fun i _=>J.n.toNat-(intOf i).toNat)
        case atStart=>exact ⟨0,by have:=(Qa HJB).2.1;omega,rfl,M⟩
        case round=>
          clear M;obtain⟨k,hk,rfl,M⟩:=hrel;have f0:=Qb ((Qa M).at 0 _ rfl) 0 (.int .i64 J.n) rfl;by_cases hkn:(k:Int)<J.n
          · have hd2:decide ((k:Int)<J.n)=true:=decide_eq_true hkn;have hJ8:=(Qa HJB).2.2.1;have hk8:(k:Int)<8:=by omega
            have HK8:Hid (k<8):=by show _<_;omega
            obtain⟨m,hm,hmm,_⟩:=mem_at (Qa HVF).len k (Qa HK8);obtain⟨mu,hmu,hmmu,_⟩:=mem_at (v:=u) (by have h9:=Qa HU8;exact h9) k (Qa HK8);have HMU:Hid ((u:Vi.Vw).ms[k]?=some mu):=hmu;have hch:m.1=true→mu=m∨m.2<E.ep k:=by
              have h9:=Qa HCH k (Qa HK8);rw [hmm] at h9
              first
              |(rw [hmmu] at h9;exact h9)
              | exact fun _=>Or.inl (hmmu.symm.trans hmm)
            have HRG:=hide (Zk ((Qa M).at 1 _ rfl) hm);obtain⟨mi,me⟩:=m;clear hm hmm hmu hmmu;go_wp2_with (first |(refine Qg Vi.QC rfl (.tmp 138) rfl b6 (3+k*2) rfl (Vi.QD (mi,me)) rfl (Qa HRG) ?_;refine Stp.go ?_))
            constructor
            go_wp2_with (first |(refine QM Vi.QC (Vi.QD (false,0)) rfl Vi.QT 14 rfl rfl rfl (.tmp 139) rfl rfl rfl (Vi.QD (mi,me)) rfl (Vi.Ze _) (by kernel_rfl) (by kernel_rfl) ?_;intro W81 b81 e81 B81 K81;replace M:=hide ((Qa M).new e81 B81 K81);clear e81 B81 K81;refine Stp.go ?_))
            constructor
            go_wp2_with fail
            clear f0;cases mi with
            | false=>
              refine wp_region_any mixed (QW 18 rfl (by kernel_rfl) [some (.pointer (some ⟨b81,0,none⟩)),some (.bool false),some (.bool false),none,none,none,none,none,none,some (.bool false),some (.bool false),none,none,none,none,none,none,some (.bool false)] rfl (by kernel_rfl) (by kernel_rfl) ?_ ?_)
              · intro i o' hi hsk ho a' w2 hout hin hk2;replace hk2:Kept [] W81 w2:=⟨hk2.os,hk2.tape,hk2.output,hk2.size,hk2.block⟩
                match i,ho,hsk with
                | 0,ho,hsk=>
                  obtain rfl:=Oj9 ho;exact o_fldM0 (.tmp 14) rfl b81 0 ((hout 14 (by kernel_rfl)).trans rfl) (tE rfl)
                | 1,ho,hsk=>
                  obtain rfl:=Oj9 ho;have e0:a'.eval (.tmp 140)= .pointer (some ⟨b81,0,none⟩):=Qm (hin 0 140 (by kernel_rfl) (by kernel_rfl)) rfl;exact o_ld4 (.tmp 140) rfl _ _ e0 (Qb (((Qa M).step hk2).at 3 _ rfl) 0 _ rfl) (tE rfl)
                | 2,ho,hsk=>
                  obtain rfl:=Oj9 ho;have e0:a'.eval (.tmp 141)= .bool false:=Qm (hin 1 141 (by kernel_rfl) (by kernel_rfl)) rfl;exact wp_move (.tmp 141) rfl _ e0 (tE rfl)
                | 3,ho,hsk=>
                  cases hsk
                | 4,ho,hsk=>
                  cases hsk
                | 5,ho,hsk=>
                  cases hsk
                | 6,ho,hsk=>
                  cases hsk
                | 7,ho,hsk=>
                  cases hsk
                | 8,ho,hsk=>
                  cases hsk
                | 9,ho,hsk=>
                  obtain rfl:=Oj9 ho;have e0:a'.eval (.tmp 142)= .bool false:=Qm (hin 2 142 (by kernel_rfl) (by kernel_rfl)) rfl;exact ZA (.tmp 142) (.tmp 148) rfl e0 (tE rfl)
                | 10,ho,hsk=>
                  obtain rfl:=Oj9 ho;have e0:a'.eval (.tmp 149)= .bool false:=Qm (hin 9 149 (by kernel_rfl) (by kernel_rfl)) rfl;exact wp_move (.tmp 149) rfl _ e0 (tE rfl)
                | 11,ho,hsk=>
                  cases hsk
                | 12,ho,hsk=>
                  cases hsk
                | 13,ho,hsk=>
                  cases hsk
                | 14,ho,hsk=>
                  cases hsk
                | 15,ho,hsk=>
                  cases hsk
                | 16,ho,hsk=>
                  cases hsk
                | 17,ho,hsk=>
                  obtain rfl:=Oj9 ho;have e0:a'.eval (.tmp 150)= .bool false:=Qm (hin 10 150 (by kernel_rfl) (by kernel_rfl)) rfl;exact ZA (.tmp 150) (.tmp 156) rfl e0 (tE rfl)
              intro w9 hk9;replace hk9:Kept [] W81 w9:=⟨hk9.os,hk9.tape,hk9.output,hk9.size,hk9.block⟩;simp only [valsQ,List.map_cons,List.map_nil,Option.getD_some,Option.getD_none,List.take_succ_cons,List.take_zero,Qz,Act.put,List.setIfInBounds_toArray,List.set_cons_succ,List.set_cons_zero];refine wpAny_done (by kernel_rfl) ?_ _;replace M:=hide ((Qa M).step hk9);clear hk9;go_wp2_with fail
              go_roundw
              case rel=>exact ⟨k+1,by omega,by first | rfl | go_num,hide ((Qa M).less (by simp))⟩
              case measure=>simp [intOf];omega
            | true=>
              by_cases hq:mu=(true,me)
              · have HQ:Hid (decide (mu=(true,me))=true):=decide_eq_true hq;refine wp_region_any mixed (QW 18 rfl (by kernel_rfl) [some (.pointer (some ⟨b81,0,none⟩)),some (.bool true),some (.bool true),some (.int .i64 k),some (.pointer (some ⟨b42,3,none⟩)),some (.pointer (some ⟨b42,3+k*2,none⟩)),some (Qd (Vi.QD mu)),some (Qd (Vi.QD (true,me))),some (.bool false),some (.bool false),some (.bool false),none,none,none,none,none,none,some (.bool false)] rfl (by kernel_rfl) (by kernel_rfl) ?_ ?_)
                · intro i o' hi hsk ho a' w2 hout hin hk2;replace hk2:Kept [] W81 w2:=⟨hk2.os,hk2.tape,hk2.output,hk2.size,hk2.block⟩
                  match i,ho,hsk with
                  | 0,ho,hsk=>
                    obtain rfl:=Oj9 ho;exact o_fldM0 (.tmp 14) rfl b81 0 ((hout 14 (by kernel_rfl)).trans rfl) (tE rfl)
                  | 1,ho,hsk=>
                    obtain rfl:=Oj9 ho;have e0:a'.eval (.tmp 140)= .pointer (some ⟨b81,0,none⟩):=Qm (hin 0 140 (by kernel_rfl) (by kernel_rfl)) rfl;exact o_ld4 (.tmp 140) rfl _ _ e0 (Qb (((Qa M).step hk2).at 3 _ rfl) 0 _ rfl) (tE rfl)
                  | 2,ho,hsk=>
                    obtain rfl:=Oj9 ho;have e0:a'.eval (.tmp 141)= .bool true:=Qm (hin 1 141 (by kernel_rfl) (by kernel_rfl)) rfl;exact wp_move (.tmp 141) rfl _ e0 (tE rfl)
                  | 3,ho,hsk=>
                    obtain rfl:=Oj9 ho;exact wp_move (.tmp 13) rfl _ ((hout 13 (by kernel_rfl)).trans rfl) (tE rfl)
                  | 4,ho,hsk=>
                    obtain rfl:=Oj9 ho;exact Vi.ZE (.tmp 11) rfl b42 ((hout 11 (by kernel_rfl)).trans rfl) (tE rfl)
                  | 5,ho,hsk=>
                    obtain rfl:=Oj9 ho;have e0:a'.eval (.tmp 144)= .pointer (some ⟨b42,3,none⟩):=Qm (hin 4 144 (by kernel_rfl) (by kernel_rfl)) rfl;have e1:a'.eval (.tmp 143)= .int .i64 k:=Qm (hin 3 143 (by kernel_rfl) (by kernel_rfl)) rfl;exact Vi.o_idx24 (.tmp 144) (.tmp 143) rfl b42 k (Qa HK8) e0 e1 (tE rfl)
                  | 6,ho,hsk=>
                    obtain rfl:=Oj9 ho;have e0:a'.eval (.tmp 145)= .pointer (some ⟨b42,3+k*2,none⟩):=Qm (hin 5 145 (by kernel_rfl) (by kernel_rfl)) rfl;exact Qw Vi.QC (.tmp 145) rfl b42 (3+k*2) e0 (Vi.QD mu) rfl (Zk (((Qa M).step hk2).at 2 _ rfl) (Qa HMU)) (tE rfl)
                  | 7,ho,hsk=>
                    obtain rfl:=Oj9 ho;exact Qw Vi.QC (.tmp 14) rfl b81 0 ((hout 14 (by kernel_rfl)).trans rfl) (Vi.QD (true,me)) rfl (((Qa M).step hk2).at 3 _ rfl).range (tE rfl)
                  | 8,ho,hsk=>
                    obtain rfl:=Oj9 ho;have e0:a'.eval (.tmp 146)=Qd (Vi.QD mu):=Qm (hin 6 146 (by kernel_rfl) (by kernel_rfl)) rfl;have e1:a'.eval (.tmp 147)=Qd (Vi.QD (true,me)):=Qm (hin 7 147 (by kernel_rfl) (by kernel_rfl)) rfl;exact Le.o_neqA 26 26 guard26m (.tmp 146) (.tmp 147) rfl (Vi.QD mu) (Vi.QD (true,me)) e0 e1 true ((eq26m _ mu (true,me)).trans (by rw [Qa HQ])) (tE rfl)
                  | 9,ho,hsk=>
                    obtain rfl:=Oj9 ho;have e0:a'.eval (.tmp 142)= .bool true:=Qm (hin 2 142 (by kernel_rfl) (by kernel_rfl)) rfl;have e1:a'.eval (.tmp 148)= .bool false:=Qm (hin 8 148 (by kernel_rfl) (by kernel_rfl)) rfl;exact ZB (.tmp 142) (.tmp 148) rfl false e0 e1 (tE rfl)
                  | 10,ho,hsk=>
                    obtain rfl:=Oj9 ho;have e0:a'.eval (.tmp 149)= .bool false:=Qm (hin 9 149 (by kernel_rfl) (by kernel_rfl)) rfl;exact wp_move (.tmp 149) rfl _ e0 (tE rfl)
                  | 11,ho,hsk=>
                    cases hsk
                  | 12,ho,hsk=>
                    cases hsk
                  | 13,ho,hsk=>
                    cases hsk
                  | 14,ho,hsk=>
                    cases hsk
                  | 15,ho,hsk=>
                    cases hsk
                  | 16,ho,hsk=>
                    cases hsk
                  | 17,ho,hsk=>
                    obtain rfl:=Oj9 ho;have e0:a'.eval (.tmp 150)= .bool false:=Qm (hin 10 150 (by kernel_rfl) (by kernel_rfl)) rfl;exact ZA (.tmp 150) (.tmp 156) rfl e0 (tE rfl)
                intro w9 hk9;replace hk9:Kept [] W81 w9:=⟨hk9.os,hk9.tape,hk9.output,hk9.size,hk9.block⟩;simp only [valsQ,List.map_cons,List.map_nil,Option.getD_some,Option.getD_none,List.take_succ_cons,List.take_zero,Qz,Act.put,List.setIfInBounds_toArray,List.set_cons_succ,List.set_cons_zero];refine wpAny_done (by kernel_rfl) ?_ _;replace M:=hide ((Qa M).step hk9);clear hk9;go_wp2_with fail
                go_roundw
                case rel=>exact ⟨k+1,by omega,by first | rfl | go_num,hide ((Qa M).less (by simp))⟩
                case measure=>simp [intOf];omega
              · have HQ:Hid (decide (mu=(true,me))=false):=decide_eq_false hq;have hfe:me<E.ep k:=by
                  rcases hch rfl with e | e
                  · exact absurd e hq
                  · exact e
                have hfn:E.fenced k me=true:=by
                  unfold Dv.Dev.fenced;rw [decide_eq_true hfe,show Dv.hasN E.N (k:Int)=true from decide_eq_true (by have:=(Qa HG2).n;omega)];rfl
                have PF:=hide (fun W (h:Dv.Dv W b g E)=>Dv.fenced37 b g E k me W h);rw [hfn] at PF;clear hfe hfn;refine wp_region_any mixed (QW 18 rfl (by kernel_rfl) [some (.pointer (some ⟨b81,0,none⟩)),some (.bool true),some (.bool true),some (.int .i64 k),some (.pointer (some ⟨b42,3,none⟩)),some (.pointer (some ⟨b42,3+k*2,none⟩)),some (Qd (Vi.QD mu)),some (Qd (Vi.QD (true,me))),some (.bool true),some (.bool true),some (.bool true),some (P0 b),some (.int .i64 k),some (.pointer (some ⟨b81,1,none⟩)),some (.int .i64 me),some (.bool true),some (.bool false),some (.bool false)] rfl (by kernel_rfl) (by kernel_rfl) ?_ ?_)
                · intro i o' hi hsk ho a' w2 hout hin hk2;replace hk2:Kept [] W81 w2:=⟨hk2.os,hk2.tape,hk2.output,hk2.size,hk2.block⟩
                  match i,ho,hsk with
                  | 0,ho,hsk=>
                    obtain rfl:=Oj9 ho;exact o_fldM0 (.tmp 14) rfl b81 0 ((hout 14 (by kernel_rfl)).trans rfl) (tE rfl)
                  | 1,ho,hsk=>
                    obtain rfl:=Oj9 ho;have e0:a'.eval (.tmp 140)= .pointer (some ⟨b81,0,none⟩):=Qm (hin 0 140 (by kernel_rfl) (by kernel_rfl)) rfl;exact o_ld4 (.tmp 140) rfl _ _ e0 (Qb (((Qa M).step hk2).at 3 _ rfl) 0 _ rfl) (tE rfl)
                  | 2,ho,hsk=>
                    obtain rfl:=Oj9 ho;have e0:a'.eval (.tmp 141)= .bool true:=Qm (hin 1 141 (by kernel_rfl) (by kernel_rfl)) rfl;exact wp_move (.tmp 141) rfl _ e0 (tE rfl)
                  | 3,ho,hsk=>
                    obtain rfl:=Oj9 ho;exact wp_move (.tmp 13) rfl _ ((hout 13 (by kernel_rfl)).trans rfl) (tE rfl)
                  | 4,ho,hsk=>
                    obtain rfl:=Oj9 ho;exact Vi.ZE (.tmp 11) rfl b42 ((hout 11 (by kernel_rfl)).trans rfl) (tE rfl)
                  | 5,ho,hsk=>
                    obtain rfl:=Oj9 ho;have e0:a'.eval (.tmp 144)= .pointer (some ⟨b42,3,none⟩):=Qm (hin 4 144 (by kernel_rfl) (by kernel_rfl)) rfl;have e1:a'.eval (.tmp 143)= .int .i64 k:=Qm (hin 3 143 (by kernel_rfl) (by kernel_rfl)) rfl;exact Vi.o_idx24 (.tmp 144) (.tmp 143) rfl b42 k (Qa HK8) e0 e1 (tE rfl)
                  | 6,ho,hsk=>
                    obtain rfl:=Oj9 ho;have e0:a'.eval (.tmp 145)= .pointer (some ⟨b42,3+k*2,none⟩):=Qm (hin 5 145 (by kernel_rfl) (by kernel_rfl)) rfl;exact Qw Vi.QC (.tmp 145) rfl b42 (3+k*2) e0 (Vi.QD mu) rfl (Zk (((Qa M).step hk2).at 2 _ rfl) (Qa HMU)) (tE rfl)
                  | 7,ho,hsk=>
                    obtain rfl:=Oj9 ho;exact Qw Vi.QC (.tmp 14) rfl b81 0 ((hout 14 (by kernel_rfl)).trans rfl) (Vi.QD (true,me)) rfl (((Qa M).step hk2).at 3 _ rfl).range (tE rfl)
                  | 8,ho,hsk=>
                    obtain rfl:=Oj9 ho;have e0:a'.eval (.tmp 146)=Qd (Vi.QD mu):=Qm (hin 6 146 (by kernel_rfl) (by kernel_rfl)) rfl;have e1:a'.eval (.tmp 147)=Qd (Vi.QD (true,me)):=Qm (hin 7 147 (by kernel_rfl) (by kernel_rfl)) rfl;exact Le.o_neqA 26 26 guard26m (.tmp 146) (.tmp 147) rfl (Vi.QD mu) (Vi.QD (true,me)) e0 e1 false ((eq26m _ mu (true,me)).trans (by rw [Qa HQ])) (tE rfl)
                  | 9,ho,hsk=>
                    obtain rfl:=Oj9 ho;have e0:a'.eval (.tmp 142)= .bool true:=Qm (hin 2 142 (by kernel_rfl) (by kernel_rfl)) rfl;have e1:a'.eval (.tmp 148)= .bool true:=Qm (hin 8 148 (by kernel_rfl) (by kernel_rfl)) rfl;exact ZB (.tmp 142) (.tmp 148) rfl true e0 e1 (tE rfl)
                  | 10,ho,hsk=>
                    obtain rfl:=Oj9 ho;have e0:a'.eval (.tmp 149)= .bool true:=Qm (hin 9 149 (by kernel_rfl) (by kernel_rfl)) rfl;exact wp_move (.tmp 149) rfl _ e0 (tE rfl)
                  | 11,ho,hsk=>
                    obtain rfl:=Oj9 ho;exact wp_move (.tmp 5) rfl _ ((hout 5 (by kernel_rfl)).trans rfl) (tE rfl)
                  | 12,ho,hsk=>
                    obtain rfl:=Oj9 ho;exact wp_move (.tmp 13) rfl _ ((hout 13 (by kernel_rfl)).trans rfl) (tE rfl)
                  | 13,ho,hsk=>
                    obtain rfl:=Oj9 ho;exact o_fldM1 (.tmp 14) rfl b81 0 ((hout 14 (by kernel_rfl)).trans rfl) (tE rfl)
                  | 14,ho,hsk=>
                    obtain rfl:=Oj9 ho;have e0:a'.eval (.tmp 153)= .pointer (some ⟨b81,1,none⟩):=Qm (hin 13 153 (by kernel_rfl) (by kernel_rfl)) rfl;exact Za (.tmp 153) rfl _ _ e0 (Qb (((Qa M).step hk2).at 3 _ rfl) 1 _ rfl) (tE rfl)
                  | 15,ho,hsk=>
                    obtain rfl:=Oj9 ho;have e0:a'.eval (.tmp 151)=P0 b:=Qm (hin 11 151 (by kernel_rfl) (by kernel_rfl)) rfl;have e1:a'.eval (.tmp 152)= .int .i64 k:=Qm (hin 12 152 (by kernel_rfl) (by kernel_rfl)) rfl;have e2:a'.eval (.tmp 154)= .int .i64 me:=Qm (hin 14 154 (by kernel_rfl) (by kernel_rfl)) rfl;have e2:a'.eval (.tmp 154)= .int .i64 me:=Qm (hin 14 154 (by kernel_rfl) (by kernel_rfl)) rfl;refine Qq 20 _ _ rfl #[P0 b,.int .i64 k,.int .i64 me] (by simp [e0,e1,e2]) (cg20 _ _) ((Qa PF w2 ((Qa M).step hk2).dv).mono ?_);rintro e w3 ⟨rfl,rfl⟩;exact⟨_,rfl,(tE rfl)⟩
                  | 16,ho,hsk=>
                    obtain rfl:=Oj9 ho;have e0:a'.eval (.tmp 155)= .bool true:=Qm (hin 15 155 (by kernel_rfl) (by kernel_rfl)) rfl;exact o_not (.tmp 155) rfl true e0 (tE rfl)
                  | 17,ho,hsk=>
                    obtain rfl:=Oj9 ho;have e0:a'.eval (.tmp 150)= .bool true:=Qm (hin 10 150 (by kernel_rfl) (by kernel_rfl)) rfl;have e1:a'.eval (.tmp 156)= .bool false:=Qm (hin 16 156 (by kernel_rfl) (by kernel_rfl)) rfl;exact ZB (.tmp 150) (.tmp 156) rfl false e0 e1 (tE rfl)
                intro w9 hk9;replace hk9:Kept [] W81 w9:=⟨hk9.os,hk9.tape,hk9.output,hk9.size,hk9.block⟩;simp only [valsQ,List.map_cons,List.map_nil,Option.getD_some,List.take_succ_cons,List.take_zero,Qz,Act.put,List.setIfInBounds_toArray,List.set_cons_succ,List.set_cons_zero];refine wpAny_done (by kernel_rfl) ?_ _;replace M:=hide ((Qa M).step hk9);clear hk9;go_wp2_with fail
                go_roundw
                case rel=>exact ⟨k+1,by omega,by first | rfl | go_num,hide ((Qa M).less (by simp))⟩
                case measure=>simp [intOf];omega
          · have hd2:decide ((k:Int)<J.n)=false:=decide_eq_false hkn;go_wp2_with (first |(refine Qg Vi.Qn rfl (.tmp 11) rfl b42 0 rfl (Vi.vwC u) (Qa HUL) ((Qa M).at 2 _ rfl).range ?_;refine Stp.go ?_))
            constructor
            go_wp2_with (first |(refine wpStoreZ Vi.Qn rfl (.tmp 7) (.tmp 158) rfl rfl b6 1 (Vi.vwC u) rfl rfl (Qa HUL) (Vi.Ql _) (Qa M) rfl (Qa HVL) ?_;intro W91 N91;replace M:Hid (Pz b g r sg eg E E w W91 [(b1,23,Ar.Qf J),(b6,29,Vi.vwC u),(b42,29,Vi.vwC u)]):=hide N91;clear N91;refine Stp.go ?_))
            constructor
            go_wp2_with fail
            go_roundw
            case rel=>exact ⟨j+1,E,by omega,by first | rfl | go_num,by have h9:=Qa HG2;exact h9,by have h9:=Qa M;rw [show u=(oV E).1 from Qa HUU] at h9;exact h9.less (by simp)⟩
            case measure=>simp [intOf];omega
      | false=>
        have c0:=Qb ((Qa M).at 1 _ rfl) 0 (.int .i64 u.nu) rfl;have c2:=Qb ((Qa M).at 1 _ rfl) 2 (.int .i64 u.fd) rfl;have c3:=Qb ((Qa M).at 2 _ rfl) 0 (.int .i64 u.nu) rfl;have c5:=Qb ((Qa M).at 2 _ rfl) 2 (.int .i64 u.fd) rfl;obtain⟨hn0,hn1⟩:=Qa HNU;have hdn:decide (u.nu+1<u.nu)=false:=by simp;omega
        have c1:W42.cell? ⟨b6,1,none⟩=some (.bool false):=by have h9:=Qb ((Qa M).at 1 _ rfl) 1 (.bool u.op) rfl;rw [hop] at h9;exact h9
        have c4:W42.cell? ⟨b42,1,none⟩=some (.bool false):=by have h9:=Qb ((Qa M).at 2 _ rfl) 1 (.bool u.op) rfl;rw [hop] at h9;exact h9
        go_wp2_with (first |(refine Le.Zb Vi.row24 (.tmp 83) rfl rfl b42 3 rfl (Vi.QP u.ms) (by rw [Vi.Zu,(Qa HVF).len]) (Vi.Vw.range (v:=u) ((Qa M).at 2 _ rfl)) ?_;refine Stp.go ?_))
        constructor
        go_wp2_with (first |(refine Le.Zb Vi.row24 (.tmp 85) rfl rfl b6 3 rfl (Vi.QP u.ms) (by rw [Vi.Zu,(Qa HVF).len]) (Vi.Vw.range (v:=u) ((Qa M).at 1 _ rfl)) ?_;refine Stp.go ?_))
        constructor
        go_wp2_with (first |(refine wpNeqG 27 27 guard27 (.tmp 84) (.tmp 86) rfl rfl (Vi.QP u.ms) (Vi.QP u.ms) rfl rfl true ((eq27 _ u.ms u.ms (Qa HVF).len (Qa HVF).len).trans (by simp)) ?_;refine Stp.go ?_))
        constructor
        go_wp2_with fail
        clear c0 c1 c2 c3 c4 c5;go_loopw [13] (fun xn wr2=>∃k:Nat,(k:Int)≤J.n∧xn= .int .i64 k∧Hid (Pz b g r sg eg E E w wr2 [(b1,23,Ar.Qf J),(b6,29,Vi.vwC u),(b42,29,Vi.vwC u)])) (fun i _=>J.n.toNat-(intOf i).toNat)
        case atStart=>exact ⟨0,by have:=(Qa HJB).2.1;omega,rfl,M⟩
        case round=>
          clear M;obtain⟨k,hk,rfl,M⟩:=hrel;have f0:=Qb ((Qa M).at 0 _ rfl) 0 (.int .i64 J.n) rfl;by_cases hkn:(k:Int)<J.n
          · have hd2:decide ((k:Int)<J.n)=true:=decide_eq_true hkn;have hJ8:=(Qa HJB).2.2.1;have hk8:(k:Int)<8:=by omega
            have HK8:Hid (k<8):=by show _<_;omega
            obtain⟨m,hm,hmm,_⟩:=mem_at (Qa HVF).len k (Qa HK8);obtain⟨mu,hmu,hmmu,_⟩:=mem_at (v:=u) (by have h9:=Qa HU8;exact h9) k (Qa HK8);have HMU:Hid ((u:Vi.Vw).ms[k]?=some mu):=hmu;have hch:m.1=true→mu=m∨m.2<E.ep k:=by
              have h9:=Qa HCH k (Qa HK8);rw [hmm] at h9
              first
              |(rw [hmmu] at h9;exact h9)
              | exact fun _=>Or.inl (hmmu.symm.trans hmm)
            have HRG:=hide (Zk ((Qa M).at 1 _ rfl) hm);obtain⟨mi,me⟩:=m;clear hm hmm hmu hmmu;go_wp2_with (first |(refine Qg Vi.QC rfl (.tmp 138) rfl b6 (3+k*2) rfl (Vi.QD (mi,me)) rfl (Qa HRG) ?_;refine Stp.go ?_))
            constructor
            go_wp2_with (first |(refine QM Vi.QC (Vi.QD (false,0)) rfl Vi.QT 14 rfl rfl rfl (.tmp 139) rfl rfl rfl (Vi.QD (mi,me)) rfl (Vi.Ze _) (by kernel_rfl) (by kernel_rfl) ?_;intro W81 b81 e81 B81 K81;replace M:=hide ((Qa M).new e81 B81 K81);clear e81 B81 K81;refine Stp.go ?_))
            constructor
            go_wp2_with fail
            clear f0;cases mi with
            | false=>
              refine wp_region_any mixed (QW 18 rfl (by kernel_rfl) [some (.pointer (some ⟨b81,0,none⟩)),some (.bool false),some (.bool false),none,none,none,none,none,none,some (.bool false),some (.bool false),none,none,none,none,none,none,some (.bool false)] rfl (by kernel_rfl) (by kernel_rfl) ?_ ?_)
              · intro i o' hi hsk ho a' w2 hout hin hk2;replace hk2:Kept [] W81 w2:=⟨hk2.os,hk2.tape,hk2.output,hk2.size,hk2.block⟩
                match i,ho,hsk with
                | 0,ho,hsk=>
                  obtain rfl:=Oj9 ho;exact o_fldM0 (.tmp 14) rfl b81 0 ((hout 14 (by kernel_rfl)).trans rfl) (tE rfl)
                | 1,ho,hsk=>
                  obtain rfl:=Oj9 ho;have e0:a'.eval (.tmp 140)= .pointer (some ⟨b81,0,none⟩):=Qm (hin 0 140 (by kernel_rfl) (by kernel_rfl)) rfl;exact o_ld4 (.tmp 140) rfl _ _ e0 (Qb (((Qa M).step hk2).at 3 _ rfl) 0 _ rfl) (tE rfl)
                | 2,ho,hsk=>
                  obtain rfl:=Oj9 ho;have e0:a'.eval (.tmp 141)= .bool false:=Qm (hin 1 141 (by kernel_rfl) (by kernel_rfl)) rfl;exact wp_move (.tmp 141) rfl _ e0 (tE rfl)
                | 3,ho,hsk=>
                  cases hsk
                | 4,ho,hsk=>
                  cases hsk
                | 5,ho,hsk=>
                  cases hsk
                | 6,ho,hsk=>
                  cases hsk
                | 7,ho,hsk=>
                  cases hsk
                | 8,ho,hsk=>
                  cases hsk
                | 9,ho,hsk=>
                  obtain rfl:=Oj9 ho;have e0:a'.eval (.tmp 142)= .bool false:=Qm (hin 2 142 (by kernel_rfl) (by kernel_rfl)) rfl;exact ZA (.tmp 142) (.tmp 148) rfl e0 (tE rfl)
                | 10,ho,hsk=>
                  obtain rfl:=Oj9 ho;have e0:a'.eval (.tmp 149)= .bool false:=Qm (hin 9 149 (by kernel_rfl) (by kernel_rfl)) rfl;exact wp_move (.tmp 149) rfl _ e0 (tE rfl)
                | 11,ho,hsk=>
                  cases hsk
                | 12,ho,hsk=>
                  cases hsk
                | 13,ho,hsk=>
                  cases hsk
                | 14,ho,hsk=>
                  cases hsk
                | 15,ho,hsk=>
                  cases hsk
                | 16,ho,hsk=>
                  cases hsk
                | 17,ho,hsk=>
                  obtain rfl:=Oj9 ho;have e0:a'.eval (.tmp 150)= .bool false:=Qm (hin 10 150 (by kernel_rfl) (by kernel_rfl)) rfl;exact ZA (.tmp 150) (.tmp 156) rfl e0 (tE rfl)
              intro w9 hk9;replace hk9:Kept [] W81 w9:=⟨hk9.os,hk9.tape,hk9.output,hk9.size,hk9.block⟩;simp only [valsQ,List.map_cons,List.map_nil,Option.getD_some,Option.getD_none,List.take_succ_cons,List.take_zero,Qz,Act.put,List.setIfInBounds_toArray,List.set_cons_succ,List.set_cons_zero];refine wpAny_done (by kernel_rfl) ?_ _;replace M:=hide ((Qa M).step hk9);clear hk9;go_wp2_with fail
              go_roundw
              case rel=>exact ⟨k+1,by omega,by first | rfl | go_num,hide ((Qa M).less (by simp))⟩
              case measure=>simp [intOf];omega
            | true=>
              by_cases hq:mu=(true,me)
              · have HQ:Hid (decide (mu=(true,me))=true):=decide_eq_true hq;refine wp_region_any mixed (QW 18 rfl (by kernel_rfl) [some (.pointer (some ⟨b81,0,none⟩)),some (.bool true),some (.bool true),some (.int .i64 k),some (.pointer (some ⟨b42,3,none⟩)),some (.pointer (some ⟨b42,3+k*2,none⟩)),some (Qd (Vi.QD mu)),some (Qd (Vi.QD (true,me))),some (.bool false),some (.bool false),some (.bool false),none,none,none,none,none,none,some (.bool false)] rfl (by kernel_rfl) (by kernel_rfl) ?_ ?_)
                · intro i o' hi hsk ho a' w2 hout hin hk2;replace hk2:Kept [] W81 w2:=⟨hk2.os,hk2.tape,hk2.output,hk2.size,hk2.block⟩
                  match i,ho,hsk with
                  | 0,ho,hsk=>
                    obtain rfl:=Oj9 ho;exact o_fldM0 (.tmp 14) rfl b81 0 ((hout 14 (by kernel_rfl)).trans rfl) (tE rfl)
                  | 1,ho,hsk=>
                    obtain rfl:=Oj9 ho;have e0:a'.eval (.tmp 140)= .pointer (some ⟨b81,0,none⟩):=Qm (hin 0 140 (by kernel_rfl) (by kernel_rfl)) rfl;exact o_ld4 (.tmp 140) rfl _ _ e0 (Qb (((Qa M).step hk2).at 3 _ rfl) 0 _ rfl) (tE rfl)
                  | 2,ho,hsk=>
                    obtain rfl:=Oj9 ho;have e0:a'.eval (.tmp 141)= .bool true:=Qm (hin 1 141 (by kernel_rfl) (by kernel_rfl)) rfl;exact wp_move (.tmp 141) rfl _ e0 (tE rfl)
                  | 3,ho,hsk=>
                    obtain rfl:=Oj9 ho;exact wp_move (.tmp 13) rfl _ ((hout 13 (by kernel_rfl)).trans rfl) (tE rfl)
                  | 4,ho,hsk=>
                    obtain rfl:=Oj9 ho;exact Vi.ZE (.tmp 11) rfl b42 ((hout 11 (by kernel_rfl)).trans rfl) (tE rfl)
                  | 5,ho,hsk=>
                    obtain rfl:=Oj9 ho;have e0:a'.eval (.tmp 144)= .pointer (some ⟨b42,3,none⟩):=Qm (hin 4 144 (by kernel_rfl) (by kernel_rfl)) rfl;have e1:a'.eval (.tmp 143)= .int .i64 k:=Qm (hin 3 143 (by kernel_rfl) (by kernel_rfl)) rfl;exact Vi.o_idx24 (.tmp 144) (.tmp 143) rfl b42 k (Qa HK8) e0 e1 (tE rfl)
                  | 6,ho,hsk=>
                    obtain rfl:=Oj9 ho;have e0:a'.eval (.tmp 145)= .pointer (some ⟨b42,3+k*2,none⟩):=Qm (hin 5 145 (by kernel_rfl) (by kernel_rfl)) rfl;exact Qw Vi.QC (.tmp 145) rfl b42 (3+k*2) e0 (Vi.QD mu) rfl (Zk (((Qa M).step hk2).at 2 _ rfl) (Qa HMU)) (tE rfl)
                  | 7,ho,hsk=>
                    obtain rfl:=Oj9 ho;exact Qw Vi.QC (.tmp 14) rfl b81 0 ((hout 14 (by kernel_rfl)).trans rfl) (Vi.QD (true,me)) rfl (((Qa M).step hk2).at 3 _ rfl).range (tE rfl)
                  | 8,ho,hsk=>
                    obtain rfl:=Oj9 ho;have e0:a'.eval (.tmp 146)=Qd (Vi.QD mu):=Qm (hin 6 146 (by kernel_rfl) (by kernel_rfl)) rfl;have e1:a'.eval (.tmp 147)=Qd (Vi.QD (true,me)):=Qm (hin 7 147 (by kernel_rfl) (by kernel_rfl)) rfl;exact Le.o_neqA 26 26 guard26m (.tmp 146) (.tmp 147) rfl (Vi.QD mu) (Vi.QD (true,me)) e0 e1 true ((eq26m _ mu (true,me)).trans (by rw [Qa HQ])) (tE rfl)
                  | 9,ho,hsk=>
                    obtain rfl:=Oj9 ho;have e0:a'.eval (.tmp 142)= .bool true:=Qm (hin 2 142 (by kernel_rfl) (by kernel_rfl)) rfl;have e1:a'.eval (.tmp 148)= .bool false:=Qm (hin 8 148 (by kernel_rfl) (by kernel_rfl)) rfl;exact ZB (.tmp 142) (.tmp 148) rfl false e0 e1 (tE rfl)
                  | 10,ho,hsk=>
                    obtain rfl:=Oj9 ho;have e0:a'.eval (.tmp 149)= .bool false:=Qm (hin 9 149 (by kernel_rfl) (by kernel_rfl)) rfl;exact wp_move (.tmp 149) rfl _ e0 (tE rfl)
                  | 11,ho,hsk=>
                    cases hsk
                  | 12,ho,hsk=>
                    cases hsk
                  | 13,ho,hsk=>
                    cases hsk
                  | 14,ho,hsk=>
                    cases hsk
                  | 15,ho,hsk=>
                    cases hsk
                  | 16,ho,hsk=>
                    cases hsk
                  | 17,ho,hsk=>
                    obtain rfl:=Oj9 ho;have e0:a'.eval (.tmp 150)= .bool false:=Qm (hin 10 150 (by kernel_rfl) (by kernel_rfl)) rfl;exact ZA (.tmp 150) (.tmp 156) rfl e0 (tE rfl)
                intro w9 hk9;replace hk9:Kept [] W81 w9:=⟨hk9.os,hk9.tape,hk9.output,hk9.size,hk9.block⟩;simp only [valsQ,List.map_cons,List.map_nil,Option.getD_some,Option.getD_none,List.take_succ_cons,List.take_zero,Qz,Act.put,List.setIfInBounds_toArray,List.set_cons_succ,List.set_cons_zero];refine wpAny_done (by kernel_rfl) ?_ _;replace M:=hide ((Qa M).step hk9);clear hk9;go_wp2_with fail
                go_roundw
                case rel=>exact ⟨k+1,by omega,by first | rfl | go_num,hide ((Qa M).less (by simp))⟩
                case measure=>simp [intOf];omega
              · have HQ:Hid (decide (mu=(true,me))=false):=decide_eq_false hq;have hfe:me<E.ep k:=by
                  rcases hch rfl with e | e
                  · exact absurd e hq
                  · exact e
                have hfn:E.fenced k me=true:=by
                  unfold Dv.Dev.fenced;rw [decide_eq_true hfe,show Dv.hasN E.N (k:Int)=true from decide_eq_true (by have:=(Qa HG2).n;omega)];rfl
                have PF:=hide (fun W (h:Dv.Dv W b g E)=>Dv.fenced37 b g E k me W h);rw [hfn] at PF;clear hfe hfn;refine wp_region_any mixed (QW 18 rfl (by kernel_rfl) [some (.pointer (some ⟨b81,0,none⟩)),some (.bool true),some (.bool true),some (.int .i64 k),some (.pointer (some ⟨b42,3,none⟩)),some (.pointer (some ⟨b42,3+k*2,none⟩)),some (Qd (Vi.QD mu)),some (Qd (Vi.QD (true,me))),some (.bool true),some (.bool true),some (.bool true),some (P0 b),some (.int .i64 k),some (.pointer (some ⟨b81,1,none⟩)),some (.int .i64 me),some (.bool true),some (.bool false),some (.bool false)] rfl (by kernel_rfl) (by kernel_rfl) ?_ ?_)
                · intro i o' hi hsk ho a' w2 hout hin hk2;replace hk2:Kept [] W81 w2:=⟨hk2.os,hk2.tape,hk2.output,hk2.size,hk2.block⟩
                  match i,ho,hsk with
                  | 0,ho,hsk=>
                    obtain rfl:=Oj9 ho;exact o_fldM0 (.tmp 14) rfl b81 0 ((hout 14 (by kernel_rfl)).trans rfl) (tE rfl)
                  | 1,ho,hsk=>
                    obtain rfl:=Oj9 ho;have e0:a'.eval (.tmp 140)= .pointer (some ⟨b81,0,none⟩):=Qm (hin 0 140 (by kernel_rfl) (by kernel_rfl)) rfl;exact o_ld4 (.tmp 140) rfl _ _ e0 (Qb (((Qa M).step hk2).at 3 _ rfl) 0 _ rfl) (tE rfl)
                  | 2,ho,hsk=>
                    obtain rfl:=Oj9 ho;have e0:a'.eval (.tmp 141)= .bool true:=Qm (hin 1 141 (by kernel_rfl) (by kernel_rfl)) rfl;exact wp_move (.tmp 141) rfl _ e0 (tE rfl)
                  | 3,ho,hsk=>
                    obtain rfl:=Oj9 ho;exact wp_move (.tmp 13) rfl _ ((hout 13 (by kernel_rfl)).trans rfl) (tE rfl)
                  | 4,ho,hsk=>
                    obtain rfl:=Oj9 ho;exact Vi.ZE (.tmp 11) rfl b42 ((hout 11 (by kernel_rfl)).trans rfl) (tE rfl)
                  | 5,ho,hsk=>
                    obtain rfl:=Oj9 ho;have e0:a'.eval (.tmp 144)= .pointer (some ⟨b42,3,none⟩):=Qm (hin 4 144 (by kernel_rfl) (by kernel_rfl)) rfl;have e1:a'.eval (.tmp 143)= .int .i64 k:=Qm (hin 3 143 (by kernel_rfl) (by kernel_rfl)) rfl;exact Vi.o_idx24 (.tmp 144) (.tmp 143) rfl b42 k (Qa HK8) e0 e1 (tE rfl)
                  | 6,ho,hsk=>
                    obtain rfl:=Oj9 ho;have e0:a'.eval (.tmp 145)= .pointer (some ⟨b42,3+k*2,none⟩):=Qm (hin 5 145 (by kernel_rfl) (by kernel_rfl)) rfl;exact Qw Vi.QC (.tmp 145) rfl b42 (3+k*2) e0 (Vi.QD mu) rfl (Zk (((Qa M).step hk2).at 2 _ rfl) (Qa HMU)) (tE rfl)
                  | 7,ho,hsk=>
                    obtain rfl:=Oj9 ho;exact Qw Vi.QC (.tmp 14) rfl b81 0 ((hout 14 (by kernel_rfl)).trans rfl) (Vi.QD (true,me)) rfl (((Qa M).step hk2).at 3 _ rfl).range (tE rfl)
                  | 8,ho,hsk=>
                    obtain rfl:=Oj9 ho;have e0:a'.eval (.tmp 146)=Qd (Vi.QD mu):=Qm (hin 6 146 (by kernel_rfl) (by kernel_rfl)) rfl;have e1:a'.eval (.tmp 147)=Qd (Vi.QD (true,me)):=Qm (hin 7 147 (by kernel_rfl) (by kernel_rfl)) rfl;exact Le.o_neqA 26 26 guard26m (.tmp 146) (.tmp 147) rfl (Vi.QD mu) (Vi.QD (true,me)) e0 e1 false ((eq26m _ mu (true,me)).trans (by rw [Qa HQ])) (tE rfl)
                  | 9,ho,hsk=>
                    obtain rfl:=Oj9 ho;have e0:a'.eval (.tmp 142)= .bool true:=Qm (hin 2 142 (by kernel_rfl) (by kernel_rfl)) rfl;have e1:a'.eval (.tmp 148)= .bool true:=Qm (hin 8 148 (by kernel_rfl) (by kernel_rfl)) rfl;exact ZB (.tmp 142) (.tmp 148) rfl true e0 e1 (tE rfl)
                  | 10,ho,hsk=>
                    obtain rfl:=Oj9 ho;have e0:a'.eval (.tmp 149)= .bool true:=Qm (hin 9 149 (by kernel_rfl) (by kernel_rfl)) rfl;exact wp_move (.tmp 149) rfl _ e0 (tE rfl)
                  | 11,ho,hsk=>
                    obtain rfl:=Oj9 ho;exact wp_move (.tmp 5) rfl _ ((hout 5 (by kernel_rfl)).trans rfl) (tE rfl)
                  | 12,ho,hsk=>
                    obtain rfl:=Oj9 ho;exact wp_move (.tmp 13) rfl _ ((hout 13 (by kernel_rfl)).trans rfl) (tE rfl)
                  | 13,ho,hsk=>
                    obtain rfl:=Oj9 ho;exact o_fldM1 (.tmp 14) rfl b81 0 ((hout 14 (by kernel_rfl)).trans rfl) (tE rfl)
                  | 14,ho,hsk=>
                    obtain rfl:=Oj9 ho;have e0:a'.eval (.tmp 153)= .pointer (some ⟨b81,1,none⟩):=Qm (hin 13 153 (by kernel_rfl) (by kernel_rfl)) rfl;exact Za (.tmp 153) rfl _ _ e0 (Qb (((Qa M).step hk2).at 3 _ rfl) 1 _ rfl) (tE rfl)
                  | 15,ho,hsk=>
                    obtain rfl:=Oj9 ho;have e0:a'.eval (.tmp 151)=P0 b:=Qm (hin 11 151 (by kernel_rfl) (by kernel_rfl)) rfl;have e1:a'.eval (.tmp 152)= .int .i64 k:=Qm (hin 12 152 (by kernel_rfl) (by kernel_rfl)) rfl;have e2:a'.eval (.tmp 154)= .int .i64 me:=Qm (hin 14 154 (by kernel_rfl) (by kernel_rfl)) rfl;have e2:a'.eval (.tmp 154)= .int .i64 me:=Qm (hin 14 154 (by kernel_rfl) (by kernel_rfl)) rfl;refine Qq 20 _ _ rfl #[P0 b,.int .i64 k,.int .i64 me] (by simp [e0,e1,e2]) (cg20 _ _) ((Qa PF w2 ((Qa M).step hk2).dv).mono ?_);rintro e w3 ⟨rfl,rfl⟩;exact⟨_,rfl,(tE rfl)⟩
                  | 16,ho,hsk=>
                    obtain rfl:=Oj9 ho;have e0:a'.eval (.tmp 155)= .bool true:=Qm (hin 15 155 (by kernel_rfl) (by kernel_rfl)) rfl;exact o_not (.tmp 155) rfl true e0 (tE rfl)
                  | 17,ho,hsk=>
                    obtain rfl:=Oj9 ho;have e0:a'.eval (.tmp 150)= .bool true:=Qm (hin 10 150 (by kernel_rfl) (by kernel_rfl)) rfl;have e1:a'.eval (.tmp 156)= .bool false:=Qm (hin 16 156 (by kernel_rfl) (by kernel_rfl)) rfl;exact ZB (.tmp 150) (.tmp 156) rfl false e0 e1 (tE rfl)
                intro w9 hk9;replace hk9:Kept [] W81 w9:=⟨hk9.os,hk9.tape,hk9.output,hk9.size,hk9.block⟩;simp only [valsQ,List.map_cons,List.map_nil,Option.getD_some,List.take_succ_cons,List.take_zero,Qz,Act.put,List.setIfInBounds_toArray,List.set_cons_succ,List.set_cons_zero];refine wpAny_done (by kernel_rfl) ?_ _;replace M:=hide ((Qa M).step hk9);clear hk9;go_wp2_with fail
                go_roundw
                case rel=>exact ⟨k+1,by omega,by first | rfl | go_num,hide ((Qa M).less (by simp))⟩
                case measure=>simp [intOf];omega
          · have hd2:decide ((k:Int)<J.n)=false:=decide_eq_false hkn;go_wp2_with (first |(refine Qg Vi.Qn rfl (.tmp 11) rfl b42 0 rfl (Vi.vwC u) (Qa HUL) ((Qa M).at 2 _ rfl).range ?_;refine Stp.go ?_))
            constructor
            go_wp2_with (first |(refine wpStoreZ Vi.Qn rfl (.tmp 7) (.tmp 158) rfl rfl b6 1 (Vi.vwC u) rfl rfl (Qa HUL) (Vi.Ql _) (Qa M) rfl (Qa HVL) ?_;intro W91 N91;replace M:Hid (Pz b g r sg eg E E w W91 [(b1,23,Ar.Qf J),(b6,29,Vi.vwC u),(b42,29,Vi.vwC u)]):=hide N91;clear N91;refine Stp.go ?_))
            constructor
            go_wp2_with fail
            go_roundw
            case rel=>exact ⟨j+1,E,by omega,by first | rfl | go_num,by have h9:=Qa HG2;exact h9,by have h9:=Qa M;rw [show u=(oV E).1 from Qa HUU] at h9;exact h9.less (by simp)⟩
            case measure=>simp [intOf];omega
    · clear HCG;subst e;have PALL:=hide (fun W (h:Dv.Dv W b9 g9 D) (hF:Vi.First W)=>all19 (P0 b9) (some D) J v W (dq_of h) hF (Qa HVF).len);rw [hall] at PALL;clear hall;have c0:=Qb ((Qa M).at 1 _ rfl) 0 (.int .i64 v.nu) rfl;have c2:=Qb ((Qa M).at 1 _ rfl) 2 (.int .i64 v.fd) rfl;have c3:=Qb ((Qa M).at 2 _ rfl) 0 (.int .i64 v.nu) rfl;have c5:=Qb ((Qa M).at 2 _ rfl) 2 (.int .i64 v.fd) rfl;obtain⟨hn0,hn1⟩:=Qa HNU;have hdn:decide (v.nu+1<v.nu)=false:=by simp;omega
      have c1:W42.cell? ⟨b6,1,none⟩=some (.bool false):=by have h9:=Qb ((Qa M).at 1 _ rfl) 1 (.bool v.op) rfl;rw [hop] at h9;exact h9
      have c4:W42.cell? ⟨b42,1,none⟩=some (.bool true):=by exact Qb ((Qa M).at 2 _ rfl) 1 (.bool true) rfl
      go_wp2_with (first |(refine Le.Zb Vi.row24 (.tmp 83) rfl rfl b42 3 rfl (Vi.QP v.ms) (by rw [Vi.Zu,(Qa HVF).len]) (Vi.Vw.range (v:=⟨v.nu,true,v.fd,v.ms⟩) ((Qa M).at 2 _ rfl)) ?_;refine Stp.go ?_))
      constructor
      go_wp2_with (first |(refine Le.Zb Vi.row24 (.tmp 85) rfl rfl b6 3 rfl (Vi.QP v.ms) (by rw [Vi.Zu,(Qa HVF).len]) (Vi.Vw.range (v:=v) ((Qa M).at 1 _ rfl)) ?_;refine Stp.go ?_))
      constructor
      go_wp2_with (first |(refine wpNeqG 27 27 guard27 (.tmp 84) (.tmp 86) rfl rfl (Vi.QP v.ms) (Vi.QP v.ms) rfl rfl true ((eq27 _ v.ms v.ms (Qa HVF).len (Qa HVF).len).trans (by simp)) ?_;refine Stp.go ?_))
      constructor
      go_wp2_with (first |(refine Le.Zb Zv (.tmp 2) rfl rfl b1 0 rfl (Ar.Qf J) rfl ((Qa M).at 0 _ rfl).range ?_;refine Stp.go ?_))
      constructor
      go_wp2_with (first |(refine Le.Zb Vi.Qn (.tmp 7) rfl rfl b6 0 rfl (Vi.vwC v) (Qa HVL) ((Qa M).at 1 _ rfl).range ?_;refine Stp.go ?_))
      constructor
      go_wp2_with (first |(go_at_call 19;refine(Qa PALL _ (Qa HC) (Qa M).fst).mono ?_;rintro e W51 ⟨rfl,K51⟩;replace M:=hide ((Qa M).step K51);clear K51;clear c0 c1 c2 c3 c4 c5;have c0:=Qb ((Qa M).at 1 _ rfl) 0 (.int .i64 v.nu) rfl;have c3:=Qb ((Qa M).at 2 _ rfl) 0 (.int .i64 v.nu) rfl;refine Stp.go ?_))
      constructor
      go_wp2_with fail
      clear c0 c3;go_loopw [13] (fun xn wr2=>∃k:Nat,(k:Int)≤J.n∧xn= .int .i64 k∧Hid (Pz b g r sg eg E E w wr2 [(b1,23,Ar.Qf J),(b6,29,Vi.vwC v),(b42,29,Vi.vwC ⟨v.nu,true,v.fd,v.ms⟩)])) (fun i _=>J.n.toNat-(intOf i).toNat)
      case atStart=>exact ⟨0,by have:=(Qa HJB).2.1;omega,rfl,M⟩
      case round=>
        clear M;obtain⟨k,hk,rfl,M⟩:=hrel;have f0:=Qb ((Qa M).at 0 _ rfl) 0 (.int .i64 J.n) rfl;by_cases hkn:(k:Int)<J.n
        · have hd2:decide ((k:Int)<J.n)=true:=decide_eq_true hkn;have hJ8:=(Qa HJB).2.2.1;have hk8:(k:Int)<8:=by omega
          have HK8:Hid (k<8):=by show _<_;omega
          obtain⟨m,hm,hmm,_⟩:=mem_at (Qa HVF).len k (Qa HK8);obtain⟨mu,hmu,hmmu,_⟩:=mem_at (v:=⟨v.nu,true,v.fd,v.ms⟩) (by have h9:=Qa HU8;exact h9) k (Qa HK8);have HMU:Hid ((⟨v.nu,true,v.fd,v.ms⟩:Vi.Vw).ms[k]?=some mu):=hmu;have hch:m.1=true→mu=m∨m.2<E.ep k:=by
            have h9:=Qa HCH k (Qa HK8);rw [hmm] at h9
            first
            |(rw [hmmu] at h9;exact h9)
            | exact fun _=>Or.inl (hmmu.symm.trans hmm)
          have HRG:=hide (Zk ((Qa M).at 1 _ rfl) hm);obtain⟨mi,me⟩:=m;clear hm hmm hmu hmmu;go_wp2_with (first |(refine Qg Vi.QC rfl (.tmp 138) rfl b6 (3+k*2) rfl (Vi.QD (mi,me)) rfl (Qa HRG) ?_;refine Stp.go ?_))
          constructor
          go_wp2_with (first |(refine QM Vi.QC (Vi.QD (false,0)) rfl Vi.QT 14 rfl rfl rfl (.tmp 139) rfl rfl rfl (Vi.QD (mi,me)) rfl (Vi.Ze _) (by kernel_rfl) (by kernel_rfl) ?_;intro W81 b81 e81 B81 K81;replace M:=hide ((Qa M).new e81 B81 K81);clear e81 B81 K81;refine Stp.go ?_))
          constructor
          go_wp2_with fail
          clear f0;cases mi with
          | false=>
            refine wp_region_any mixed (QW 18 rfl (by kernel_rfl) [some (.pointer (some ⟨b81,0,none⟩)),some (.bool false),some (.bool false),none,none,none,none,none,none,some (.bool false),some (.bool false),none,none,none,none,none,none,some (.bool false)] rfl (by kernel_rfl) (by kernel_rfl) ?_ ?_)
            · intro i o' hi hsk ho a' w2 hout hin hk2;replace hk2:Kept [] W81 w2:=⟨hk2.os,hk2.tape,hk2.output,hk2.size,hk2.block⟩
              match i,ho,hsk with
              | 0,ho,hsk=>
                obtain rfl:=Oj9 ho;exact o_fldM0 (.tmp 14) rfl b81 0 ((hout 14 (by kernel_rfl)).trans rfl) (tE rfl)
              | 1,ho,hsk=>
                obtain rfl:=Oj9 ho;have e0:a'.eval (.tmp 140)= .pointer (some ⟨b81,0,none⟩):=Qm (hin 0 140 (by kernel_rfl) (by kernel_rfl)) rfl;exact o_ld4 (.tmp 140) rfl _ _ e0 (Qb (((Qa M).step hk2).at 3 _ rfl) 0 _ rfl) (tE rfl)
              | 2,ho,hsk=>
                obtain rfl:=Oj9 ho;have e0:a'.eval (.tmp 141)= .bool false:=Qm (hin 1 141 (by kernel_rfl) (by kernel_rfl)) rfl;exact wp_move (.tmp 141) rfl _ e0 (tE rfl)
              | 3,ho,hsk=>
                cases hsk
              | 4,ho,hsk=>
                cases hsk
              | 5,ho,hsk=>
                cases hsk
              | 6,ho,hsk=>
                cases hsk
              | 7,ho,hsk=>
                cases hsk
              | 8,ho,hsk=>
                cases hsk
              | 9,ho,hsk=>
                obtain rfl:=Oj9 ho;have e0:a'.eval (.tmp 142)= .bool false:=Qm (hin 2 142 (by kernel_rfl) (by kernel_rfl)) rfl;exact ZA (.tmp 142) (.tmp 148) rfl e0 (tE rfl)
              | 10,ho,hsk=>
                obtain rfl:=Oj9 ho;have e0:a'.eval (.tmp 149)= .bool false:=Qm (hin 9 149 (by kernel_rfl) (by kernel_rfl)) rfl;exact wp_move (.tmp 149) rfl _ e0 (tE rfl)
              | 11,ho,hsk=>
                cases hsk
              | 12,ho,hsk=>
                cases hsk
              | 13,ho,hsk=>
                cases hsk
              | 14,ho,hsk=>
                cases hsk
              | 15,ho,hsk=>
                cases hsk
              | 16,ho,hsk=>
                cases hsk
              | 17,ho,hsk=>
                obtain rfl:=Oj9 ho;have e0:a'.eval (.tmp 150)= .bool false:=Qm (hin 10 150 (by kernel_rfl) (by kernel_rfl)) rfl;exact ZA (.tmp 150) (.tmp 156) rfl e0 (tE rfl)
            intro w9 hk9;replace hk9:Kept [] W81 w9:=⟨hk9.os,hk9.tape,hk9.output,hk9.size,hk9.block⟩;simp only [valsQ,List.map_cons,List.map_nil,Option.getD_some,Option.getD_none,List.take_succ_cons,List.take_zero,Qz,Act.put,List.setIfInBounds_toArray,List.set_cons_succ,List.set_cons_zero];refine wpAny_done (by kernel_rfl) ?_ _;replace M:=hide ((Qa M).step hk9);clear hk9;go_wp2_with fail
            go_roundw
            case rel=>exact ⟨k+1,by omega,by first | rfl | go_num,hide ((Qa M).less (by simp))⟩
            case measure=>simp [intOf];omega
          | true=>
            by_cases hq:mu=(true,me)
            · have HQ:Hid (decide (mu=(true,me))=true):=decide_eq_true hq;refine wp_region_any mixed (QW 18 rfl (by kernel_rfl) [some (.pointer (some ⟨b81,0,none⟩)),some (.bool true),some (.bool true),some (.int .i64 k),some (.pointer (some ⟨b42,3,none⟩)),some (.pointer (some ⟨b42,3+k*2,none⟩)),some (Qd (Vi.QD mu)),some (Qd (Vi.QD (true,me))),some (.bool false),some (.bool false),some (.bool false),none,none,none,none,none,none,some (.bool false)] rfl (by kernel_rfl) (by kernel_rfl) ?_ ?_)
              · intro i o' hi hsk ho a' w2 hout hin hk2;replace hk2:Kept [] W81 w2:=⟨hk2.os,hk2.tape,hk2.output,hk2.size,hk2.block⟩
                match i,ho,hsk with
                | 0,ho,hsk=>
                  obtain rfl:=Oj9 ho;exact o_fldM0 (.tmp 14) rfl b81 0 ((hout 14 (by kernel_rfl)).trans rfl) (tE rfl)
                | 1,ho,hsk=>
                  obtain rfl:=Oj9 ho;have e0:a'.eval (.tmp 140)= .pointer (some ⟨b81,0,none⟩):=Qm (hin 0 140 (by kernel_rfl) (by kernel_rfl)) rfl;exact o_ld4 (.tmp 140) rfl _ _ e0 (Qb (((Qa M).step hk2).at 3 _ rfl) 0 _ rfl) (tE rfl)
                | 2,ho,hsk=>
                  obtain rfl:=Oj9 ho;have e0:a'.eval (.tmp 141)= .bool true:=Qm (hin 1 141 (by kernel_rfl) (by kernel_rfl)) rfl;exact wp_move (.tmp 141) rfl _ e0 (tE rfl)
                | 3,ho,hsk=>
                  obtain rfl:=Oj9 ho;exact wp_move (.tmp 13) rfl _ ((hout 13 (by kernel_rfl)).trans rfl) (tE rfl)
                | 4,ho,hsk=>
                  obtain rfl:=Oj9 ho;exact Vi.ZE (.tmp 11) rfl b42 ((hout 11 (by kernel_rfl)).trans rfl) (tE rfl)
                | 5,ho,hsk=>
                  obtain rfl:=Oj9 ho;have e0:a'.eval (.tmp 144)= .pointer (some ⟨b42,3,none⟩):=Qm (hin 4 144 (by kernel_rfl) (by kernel_rfl)) rfl;have e1:a'.eval (.tmp 143)= .int .i64 k:=Qm (hin 3 143 (by kernel_rfl) (by kernel_rfl)) rfl;exact Vi.o_idx24 (.tmp 144) (.tmp 143) rfl b42 k (Qa HK8) e0 e1 (tE rfl)
                | 6,ho,hsk=>
                  obtain rfl:=Oj9 ho;have e0:a'.eval (.tmp 145)= .pointer (some ⟨b42,3+k*2,none⟩):=Qm (hin 5 145 (by kernel_rfl) (by kernel_rfl)) rfl;exact Qw Vi.QC (.tmp 145) rfl b42 (3+k*2) e0 (Vi.QD mu) rfl (Zk (((Qa M).step hk2).at 2 _ rfl) (Qa HMU)) (tE rfl)
                | 7,ho,hsk=>
                  obtain rfl:=Oj9 ho;exact Qw Vi.QC (.tmp 14) rfl b81 0 ((hout 14 (by kernel_rfl)).trans rfl) (Vi.QD (true,me)) rfl (((Qa M).step hk2).at 3 _ rfl).range (tE rfl)
                | 8,ho,hsk=>
                  obtain rfl:=Oj9 ho;have e0:a'.eval (.tmp 146)=Qd (Vi.QD mu):=Qm (hin 6 146 (by kernel_rfl) (by kernel_rfl)) rfl;have e1:a'.eval (.tmp 147)=Qd (Vi.QD (true,me)):=Qm (hin 7 147 (by kernel_rfl) (by kernel_rfl)) rfl;exact Le.o_neqA 26 26 guard26m (.tmp 146) (.tmp 147) rfl (Vi.QD mu) (Vi.QD (true,me)) e0 e1 true ((eq26m _ mu (true,me)).trans (by rw [Qa HQ])) (tE rfl)
                | 9,ho,hsk=>
                  obtain rfl:=Oj9 ho;have e0:a'.eval (.tmp 142)= .bool true:=Qm (hin 2 142 (by kernel_rfl) (by kernel_rfl)) rfl;have e1:a'.eval (.tmp 148)= .bool false:=Qm (hin 8 148 (by kernel_rfl) (by kernel_rfl)) rfl;exact ZB (.tmp 142) (.tmp 148) rfl false e0 e1 (tE rfl)
                | 10,ho,hsk=>
                  obtain rfl:=Oj9 ho;have e0:a'.eval (.tmp 149)= .bool false:=Qm (hin 9 149 (by kernel_rfl) (by kernel_rfl)) rfl;exact wp_move (.tmp 149) rfl _ e0 (tE rfl)
                | 11,ho,hsk=>
                  cases hsk
                | 12,ho,hsk=>
                  cases hsk
                | 13,ho,hsk=>
                  cases hsk
                | 14,ho,hsk=>
                  cases hsk
                | 15,ho,hsk=>
                  cases hsk
                | 16,ho,hsk=>
                  cases hsk
                | 17,ho,hsk=>
                  obtain rfl:=Oj9 ho;have e0:a'.eval (.tmp 150)= .bool false:=Qm (hin 10 150 (by kernel_rfl) (by kernel_rfl)) rfl;exact ZA (.tmp 150) (.tmp 156) rfl e0 (tE rfl)
              intro w9 hk9;replace hk9:Kept [] W81 w9:=⟨hk9.os,hk9.tape,hk9.output,hk9.size,hk9.block⟩;simp only [valsQ,List.map_cons,List.map_nil,Option.getD_some,Option.getD_none,List.take_succ_cons,List.take_zero,Qz,Act.put,List.setIfInBounds_toArray,List.set_cons_succ,List.set_cons_zero];refine wpAny_done (by kernel_rfl) ?_ _;replace M:=hide ((Qa M).step hk9);clear hk9;go_wp2_with fail
              go_roundw
              case rel=>exact ⟨k+1,by omega,by first | rfl | go_num,hide ((Qa M).less (by simp))⟩
              case measure=>simp [intOf];omega
            · have HQ:Hid (decide (mu=(true,me))=false):=decide_eq_false hq;have hfe:me<E.ep k:=by
                rcases hch rfl with e | e
                · exact absurd e hq
                · exact e
              have hfn:E.fenced k me=true:=by
                unfold Dv.Dev.fenced;rw [decide_eq_true hfe,show Dv.hasN E.N (k:Int)=true from decide_eq_true (by have:=(Qa HG2).n;omega)];rfl
              have PF:=hide (fun W (h:Dv.Dv W b g E)=>Dv.fenced37 b g E k me W h);rw [hfn] at PF;clear hfe hfn;refine wp_region_any mixed (QW 18 rfl (by kernel_rfl) [some (.pointer (some ⟨b81,0,none⟩)),some (.bool true),some (.bool true),some (.int .i64 k),some (.pointer (some ⟨b42,3,none⟩)),some (.pointer (some ⟨b42,3+k*2,none⟩)),some (Qd (Vi.QD mu)),some (Qd (Vi.QD (true,me))),some (.bool true),some (.bool true),some (.bool true),some (P0 b),some (.int .i64 k),some (.pointer (some ⟨b81,1,none⟩)),some (.int .i64 me),some (.bool true),some (.bool false),some (.bool false)] rfl (by kernel_rfl) (by kernel_rfl) ?_ ?_)
              · intro i o' hi hsk ho a' w2 hout hin hk2;replace hk2:Kept [] W81 w2:=⟨hk2.os,hk2.tape,hk2.output,hk2.size,hk2.block⟩
                match i,ho,hsk with
                | 0,ho,hsk=>
                  obtain rfl:=Oj9 ho;exact o_fldM0 (.tmp 14) rfl b81 0 ((hout 14 (by kernel_rfl)).trans rfl) (tE rfl)
                | 1,ho,hsk=>
                  obtain rfl:=Oj9 ho;have e0:a'.eval (.tmp 140)= .pointer (some ⟨b81,0,none⟩):=Qm (hin 0 140 (by kernel_rfl) (by kernel_rfl)) rfl;exact o_ld4 (.tmp 140) rfl _ _ e0 (Qb (((Qa M).step hk2).at 3 _ rfl) 0 _ rfl) (tE rfl)
                | 2,ho,hsk=>
                  obtain rfl:=Oj9 ho;have e0:a'.eval (.tmp 141)= .bool true:=Qm (hin 1 141 (by kernel_rfl) (by kernel_rfl)) rfl;exact wp_move (.tmp 141) rfl _ e0 (tE rfl)
                | 3,ho,hsk=>
                  obtain rfl:=Oj9 ho;exact wp_move (.tmp 13) rfl _ ((hout 13 (by kernel_rfl)).trans rfl) (tE rfl)
                | 4,ho,hsk=>
                  obtain rfl:=Oj9 ho;exact Vi.ZE (.tmp 11) rfl b42 ((hout 11 (by kernel_rfl)).trans rfl) (tE rfl)
                | 5,ho,hsk=>
                  obtain rfl:=Oj9 ho;have e0:a'.eval (.tmp 144)= .pointer (some ⟨b42,3,none⟩):=Qm (hin 4 144 (by kernel_rfl) (by kernel_rfl)) rfl;have e1:a'.eval (.tmp 143)= .int .i64 k:=Qm (hin 3 143 (by kernel_rfl) (by kernel_rfl)) rfl;exact Vi.o_idx24 (.tmp 144) (.tmp 143) rfl b42 k (Qa HK8) e0 e1 (tE rfl)
                | 6,ho,hsk=>
                  obtain rfl:=Oj9 ho;have e0:a'.eval (.tmp 145)= .pointer (some ⟨b42,3+k*2,none⟩):=Qm (hin 5 145 (by kernel_rfl) (by kernel_rfl)) rfl;exact Qw Vi.QC (.tmp 145) rfl b42 (3+k*2) e0 (Vi.QD mu) rfl (Zk (((Qa M).step hk2).at 2 _ rfl) (Qa HMU)) (tE rfl)
                | 7,ho,hsk=>
                  obtain rfl:=Oj9 ho;exact Qw Vi.QC (.tmp 14) rfl b81 0 ((hout 14 (by kernel_rfl)).trans rfl) (Vi.QD (true,me)) rfl (((Qa M).step hk2).at 3 _ rfl).range (tE rfl)
                | 8,ho,hsk=>
                  obtain rfl:=Oj9 ho;have e0:a'.eval (.tmp 146)=Qd (Vi.QD mu):=Qm (hin 6 146 (by kernel_rfl) (by kernel_rfl)) rfl;have e1:a'.eval (.tmp 147)=Qd (Vi.QD (true,me)):=Qm (hin 7 147 (by kernel_rfl) (by kernel_rfl)) rfl;exact Le.o_neqA 26 26 guard26m (.tmp 146) (.tmp 147) rfl (Vi.QD mu) (Vi.QD (true,me)) e0 e1 false ((eq26m _ mu (true,me)).trans (by rw [Qa HQ])) (tE rfl)
                | 9,ho,hsk=>
                  obtain rfl:=Oj9 ho;have e0:a'.eval (.tmp 142)= .bool true:=Qm (hin 2 142 (by kernel_rfl) (by kernel_rfl)) rfl;have e1:a'.eval (.tmp 148)= .bool true:=Qm (hin 8 148 (by kernel_rfl) (by kernel_rfl)) rfl;exact ZB (.tmp 142) (.tmp 148) rfl true e0 e1 (tE rfl)
                | 10,ho,hsk=>
                  obtain rfl:=Oj9 ho;have e0:a'.eval (.tmp 149)= .bool true:=Qm (hin 9 149 (by kernel_rfl) (by kernel_rfl)) rfl;exact wp_move (.tmp 149) rfl _ e0 (tE rfl)
                | 11,ho,hsk=>
                  obtain rfl:=Oj9 ho;exact wp_move (.tmp 5) rfl _ ((hout 5 (by kernel_rfl)).trans rfl) (tE rfl)
                | 12,ho,hsk=>
                  obtain rfl:=Oj9 ho;exact wp_move (.tmp 13) rfl _ ((hout 13 (by kernel_rfl)).trans rfl) (tE rfl)
                | 13,ho,hsk=>
                  obtain rfl:=Oj9 ho;exact o_fldM1 (.tmp 14) rfl b81 0 ((hout 14 (by kernel_rfl)).trans rfl) (tE rfl)
                | 14,ho,hsk=>
                  obtain rfl:=Oj9 ho;have e0:a'.eval (.tmp 153)= .pointer (some ⟨b81,1,none⟩):=Qm (hin 13 153 (by kernel_rfl) (by kernel_rfl)) rfl;exact Za (.tmp 153) rfl _ _ e0 (Qb (((Qa M).step hk2).at 3 _ rfl) 1 _ rfl) (tE rfl)
                | 15,ho,hsk=>
                  obtain rfl:=Oj9 ho;have e0:a'.eval (.tmp 151)=P0 b:=Qm (hin 11 151 (by kernel_rfl) (by kernel_rfl)) rfl;have e1:a'.eval (.tmp 152)= .int .i64 k:=Qm (hin 12 152 (by kernel_rfl) (by kernel_rfl)) rfl;have e2:a'.eval (.tmp 154)= .int .i64 me:=Qm (hin 14 154 (by kernel_rfl) (by kernel_rfl)) rfl;have e2:a'.eval (.tmp 154)= .int .i64 me:=Qm (hin 14 154 (by kernel_rfl) (by kernel_rfl)) rfl;refine Qq 20 _ _ rfl #[P0 b,.int .i64 k,.int .i64 me] (by simp [e0,e1,e2]) (cg20 _ _) ((Qa PF w2 ((Qa M).step hk2).dv).mono ?_);rintro e w3 ⟨rfl,rfl⟩;exact⟨_,rfl,(tE rfl)⟩
                | 16,ho,hsk=>
                  obtain rfl:=Oj9 ho;have e0:a'.eval (.tmp 155)= .bool true:=Qm (hin 15 155 (by kernel_rfl) (by kernel_rfl)) rfl;exact o_not (.tmp 155) rfl true e0 (tE rfl)
                | 17,ho,hsk=>
                  obtain rfl:=Oj9 ho;have e0:a'.eval (.tmp 150)= .bool true:=Qm (hin 10 150 (by kernel_rfl) (by kernel_rfl)) rfl;have e1:a'.eval (.tmp 156)= .bool false:=Qm (hin 16 156 (by kernel_rfl) (by kernel_rfl)) rfl;exact ZB (.tmp 150) (.tmp 156) rfl false e0 e1 (tE rfl)
              intro w9 hk9;replace hk9:Kept [] W81 w9:=⟨hk9.os,hk9.tape,hk9.output,hk9.size,hk9.block⟩;simp only [valsQ,List.map_cons,List.map_nil,Option.getD_some,List.take_succ_cons,List.take_zero,Qz,Act.put,List.setIfInBounds_toArray,List.set_cons_succ,List.set_cons_zero];refine wpAny_done (by kernel_rfl) ?_ _;replace M:=hide ((Qa M).step hk9);clear hk9;go_wp2_with fail
              go_roundw
              case rel=>exact ⟨k+1,by omega,by first | rfl | go_num,hide ((Qa M).less (by simp))⟩
              case measure=>simp [intOf];omega
        · have hd2:decide ((k:Int)<J.n)=false:=decide_eq_false hkn;go_wp2_with (first |(refine Qg Vi.Qn rfl (.tmp 11) rfl b42 0 rfl (Vi.vwC ⟨v.nu,true,v.fd,v.ms⟩) (Qa HUL) ((Qa M).at 2 _ rfl).range ?_;refine Stp.go ?_))
          constructor
          go_wp2_with (first |(refine wpStoreZ Vi.Qn rfl (.tmp 7) (.tmp 158) rfl rfl b6 1 (Vi.vwC ⟨v.nu,true,v.fd,v.ms⟩) rfl rfl (Qa HUL) (Vi.Ql _) (Qa M) rfl (Qa HVL) ?_;intro W91 N91;replace M:Hid (Pz b g r sg eg E E w W91 [(b1,23,Ar.Qf J),(b6,29,Vi.vwC ⟨v.nu,true,v.fd,v.ms⟩),(b42,29,Vi.vwC ⟨v.nu,true,v.fd,v.ms⟩)]):=hide N91;clear N91;refine Stp.go ?_))
          constructor
          go_wp2_with fail
          go_roundw
          case rel=>exact ⟨j+1,E,by omega,by first | rfl | go_num,by have h9:=Qa HG2;exact h9,by have h9:=Qa M;rw [show ⟨v.nu,true,v.fd,v.ms⟩=(oV E).1 from Qa HUU] at h9;exact h9.less (by simp)⟩
          case measure=>simp [intOf];omega
    · clear HCG;have hop:True:=trivial;have c0:=Qb ((Qa M).at 1 _ rfl) 0 (.int .i64 v.nu) rfl;have c2:=Qb ((Qa M).at 1 _ rfl) 2 (.int .i64 v.fd) rfl;have c3:=Qb ((Qa M).at 2 _ rfl) 0 (.int .i64 u.nu) rfl;have c5:=Qb ((Qa M).at 2 _ rfl) 2 (.int .i64 u.fd) rfl;obtain⟨hn0,hn1⟩:=Qa HNU;have hdn:decide (u.nu<v.nu)=false:=by simp;omega
      have hdn2:decide (v.nu+1<u.nu)=false:=by simp;omega
      have hdn3:¬u.nu=v.nu:=by omega
      have hdn4:decide (v.nu<u.nu)=true:=by simp;omega
      have hdn5:v.nu<u.nu:=by omega
      clear hnu;have c4:W42.cell? ⟨b42,1,none⟩=some (.bool false):=by have h9:=Qb ((Qa M).at 2 _ rfl) 1 (.bool u.op) rfl;rw [huo] at h9;exact h9
      go_wp2_with fail
      clear c0 c2 c3 c4 c5;go_loopw [13] (fun xn wr2=>∃k:Nat,(k:Int)≤J.n∧xn= .int .i64 k∧Hid (Pz b g r sg eg E E w wr2 [(b1,23,Ar.Qf J),(b6,29,Vi.vwC v),(b42,29,Vi.vwC u)])) (fun i _=>J.n.toNat-(intOf i).toNat)
      case atStart=>exact ⟨0,by have:=(Qa HJB).2.1;omega,rfl,M⟩
      case round=>
        clear M;obtain⟨k,hk,rfl,M⟩:=hrel;have f0:=Qb ((Qa M).at 0 _ rfl) 0 (.int .i64 J.n) rfl;by_cases hkn:(k:Int)<J.n
        · have hd2:decide ((k:Int)<J.n)=true:=decide_eq_true hkn;have hJ8:=(Qa HJB).2.2.1;have hk8:(k:Int)<8:=by omega
          have HK8:Hid (k<8):=by show _<_;omega
          obtain⟨m,hm,hmm,_⟩:=mem_at (Qa HVF).len k (Qa HK8);obtain⟨mu,hmu,hmmu,_⟩:=mem_at (v:=u) (by have h9:=Qa HU8;exact h9) k (Qa HK8);have HMU:Hid ((u:Vi.Vw).ms[k]?=some mu):=hmu;have hch:m.1=true→mu=m∨m.2<E.ep k:=by
            have h9:=Qa HCH k (Qa HK8);rw [hmm] at h9
            first
            |(rw [hmmu] at h9;exact h9)
            | exact fun _=>Or.inl (hmmu.symm.trans hmm)
          have HRG:=hide (Zk ((Qa M).at 1 _ rfl) hm);obtain⟨mi,me⟩:=m;clear hm hmm hmu hmmu;go_wp2_with (first |(refine Qg Vi.QC rfl (.tmp 138) rfl b6 (3+k*2) rfl (Vi.QD (mi,me)) rfl (Qa HRG) ?_;refine Stp.go ?_))
          constructor
          go_wp2_with (first |(refine QM Vi.QC (Vi.QD (false,0)) rfl Vi.QT 14 rfl rfl rfl (.tmp 139) rfl rfl rfl (Vi.QD (mi,me)) rfl (Vi.Ze _) (by kernel_rfl) (by kernel_rfl) ?_;intro W81 b81 e81 B81 K81;replace M:=hide ((Qa M).new e81 B81 K81);clear e81 B81 K81;refine Stp.go ?_))
          constructor
          go_wp2_with fail
          clear f0;cases mi with
          | false=>
            refine wp_region_any mixed (QW 18 rfl (by kernel_rfl) [some (.pointer (some ⟨b81,0,none⟩)),some (.bool false),some (.bool false),none,none,none,none,none,none,some (.bool false),some (.bool false),none,none,none,none,none,none,some (.bool false)] rfl (by kernel_rfl) (by kernel_rfl) ?_ ?_)
            · intro i o' hi hsk ho a' w2 hout hin hk2;replace hk2:Kept [] W81 w2:=⟨hk2.os,hk2.tape,hk2.output,hk2.size,hk2.block⟩
              match i,ho,hsk with
              | 0,ho,hsk=>
                obtain rfl:=Oj9 ho;exact o_fldM0 (.tmp 14) rfl b81 0 ((hout 14 (by kernel_rfl)).trans rfl) (tE rfl)
              | 1,ho,hsk=>
                obtain rfl:=Oj9 ho;have e0:a'.eval (.tmp 140)= .pointer (some ⟨b81,0,none⟩):=Qm (hin 0 140 (by kernel_rfl) (by kernel_rfl)) rfl;exact o_ld4 (.tmp 140) rfl _ _ e0 (Qb (((Qa M).step hk2).at 3 _ rfl) 0 _ rfl) (tE rfl)
              | 2,ho,hsk=>
                obtain rfl:=Oj9 ho;have e0:a'.eval (.tmp 141)= .bool false:=Qm (hin 1 141 (by kernel_rfl) (by kernel_rfl)) rfl;exact wp_move (.tmp 141) rfl _ e0 (tE rfl)
              | 3,ho,hsk=>
                cases hsk
              | 4,ho,hsk=>
                cases hsk
              | 5,ho,hsk=>
                cases hsk
              | 6,ho,hsk=>
                cases hsk
              | 7,ho,hsk=>
                cases hsk
              | 8,ho,hsk=>
                cases hsk
              | 9,ho,hsk=>
                obtain rfl:=Oj9 ho;have e0:a'.eval (.tmp 142)= .bool false:=Qm (hin 2 142 (by kernel_rfl) (by kernel_rfl)) rfl;exact ZA (.tmp 142) (.tmp 148) rfl e0 (tE rfl)
              | 10,ho,hsk=>
                obtain rfl:=Oj9 ho;have e0:a'.eval (.tmp 149)= .bool false:=Qm (hin 9 149 (by kernel_rfl) (by kernel_rfl)) rfl;exact wp_move (.tmp 149) rfl _ e0 (tE rfl)
              | 11,ho,hsk=>
                cases hsk
              | 12,ho,hsk=>
                cases hsk
              | 13,ho,hsk=>
                cases hsk
              | 14,ho,hsk=>
                cases hsk
              | 15,ho,hsk=>
                cases hsk
              | 16,ho,hsk=>
                cases hsk
              | 17,ho,hsk=>
                obtain rfl:=Oj9 ho;have e0:a'.eval (.tmp 150)= .bool false:=Qm (hin 10 150 (by kernel_rfl) (by kernel_rfl)) rfl;exact ZA (.tmp 150) (.tmp 156) rfl e0 (tE rfl)
            intro w9 hk9;replace hk9:Kept [] W81 w9:=⟨hk9.os,hk9.tape,hk9.output,hk9.size,hk9.block⟩;simp only [valsQ,List.map_cons,List.map_nil,Option.getD_some,Option.getD_none,List.take_succ_cons,List.take_zero,Qz,Act.put,List.setIfInBounds_toArray,List.set_cons_succ,List.set_cons_zero];refine wpAny_done (by kernel_rfl) ?_ _;replace M:=hide ((Qa M).step hk9);clear hk9;go_wp2_with fail
            go_roundw
            case rel=>exact ⟨k+1,by omega,by first | rfl | go_num,hide ((Qa M).less (by simp))⟩
            case measure=>simp [intOf];omega
          | true=>
            by_cases hq:mu=(true,me)
            · have HQ:Hid (decide (mu=(true,me))=true):=decide_eq_true hq;refine wp_region_any mixed (QW 18 rfl (by kernel_rfl) [some (.pointer (some ⟨b81,0,none⟩)),some (.bool true),some (.bool true),some (.int .i64 k),some (.pointer (some ⟨b42,3,none⟩)),some (.pointer (some ⟨b42,3+k*2,none⟩)),some (Qd (Vi.QD mu)),some (Qd (Vi.QD (true,me))),some (.bool false),some (.bool false),some (.bool false),none,none,none,none,none,none,some (.bool false)] rfl (by kernel_rfl) (by kernel_rfl) ?_ ?_)
              · intro i o' hi hsk ho a' w2 hout hin hk2;replace hk2:Kept [] W81 w2:=⟨hk2.os,hk2.tape,hk2.output,hk2.size,hk2.block⟩
                match i,ho,hsk with
                | 0,ho,hsk=>
                  obtain rfl:=Oj9 ho;exact o_fldM0 (.tmp 14) rfl b81 0 ((hout 14 (by kernel_rfl)).trans rfl) (tE rfl)
                | 1,ho,hsk=>
                  obtain rfl:=Oj9 ho;have e0:a'.eval (.tmp 140)= .pointer (some ⟨b81,0,none⟩):=Qm (hin 0 140 (by kernel_rfl) (by kernel_rfl)) rfl;exact o_ld4 (.tmp 140) rfl _ _ e0 (Qb (((Qa M).step hk2).at 3 _ rfl) 0 _ rfl) (tE rfl)
                | 2,ho,hsk=>
                  obtain rfl:=Oj9 ho;have e0:a'.eval (.tmp 141)= .bool true:=Qm (hin 1 141 (by kernel_rfl) (by kernel_rfl)) rfl;exact wp_move (.tmp 141) rfl _ e0 (tE rfl)
                | 3,ho,hsk=>
                  obtain rfl:=Oj9 ho;exact wp_move (.tmp 13) rfl _ ((hout 13 (by kernel_rfl)).trans rfl) (tE rfl)
                | 4,ho,hsk=>
                  obtain rfl:=Oj9 ho;exact Vi.ZE (.tmp 11) rfl b42 ((hout 11 (by kernel_rfl)).trans rfl) (tE rfl)
                | 5,ho,hsk=>
                  obtain rfl:=Oj9 ho;have e0:a'.eval (.tmp 144)= .pointer (some ⟨b42,3,none⟩):=Qm (hin 4 144 (by kernel_rfl) (by kernel_rfl)) rfl;have e1:a'.eval (.tmp 143)= .int .i64 k:=Qm (hin 3 143 (by kernel_rfl) (by kernel_rfl)) rfl;exact Vi.o_idx24 (.tmp 144) (.tmp 143) rfl b42 k (Qa HK8) e0 e1 (tE rfl)
                | 6,ho,hsk=>
                  obtain rfl:=Oj9 ho;have e0:a'.eval (.tmp 145)= .pointer (some ⟨b42,3+k*2,none⟩):=Qm (hin 5 145 (by kernel_rfl) (by kernel_rfl)) rfl;exact Qw Vi.QC (.tmp 145) rfl b42 (3+k*2) e0 (Vi.QD mu) rfl (Zk (((Qa M).step hk2).at 2 _ rfl) (Qa HMU)) (tE rfl)
                | 7,ho,hsk=>
                  obtain rfl:=Oj9 ho;exact Qw Vi.QC (.tmp 14) rfl b81 0 ((hout 14 (by kernel_rfl)).trans rfl) (Vi.QD (true,me)) rfl (((Qa M).step hk2).at 3 _ rfl).range (tE rfl)
                | 8,ho,hsk=>
                  obtain rfl:=Oj9 ho;have e0:a'.eval (.tmp 146)=Qd (Vi.QD mu):=Qm (hin 6 146 (by kernel_rfl) (by kernel_rfl)) rfl;have e1:a'.eval (.tmp 147)=Qd (Vi.QD (true,me)):=Qm (hin 7 147 (by kernel_rfl) (by kernel_rfl)) rfl;exact Le.o_neqA 26 26 guard26m (.tmp 146) (.tmp 147) rfl (Vi.QD mu) (Vi.QD (true,me)) e0 e1 true ((eq26m _ mu (true,me)).trans (by rw [Qa HQ])) (tE rfl)
                | 9,ho,hsk=>
                  obtain rfl:=Oj9 ho;have e0:a'.eval (.tmp 142)= .bool true:=Qm (hin 2 142 (by kernel_rfl) (by kernel_rfl)) rfl;have e1:a'.eval (.tmp 148)= .bool false:=Qm (hin 8 148 (by kernel_rfl) (by kernel_rfl)) rfl;exact ZB (.tmp 142) (.tmp 148) rfl false e0 e1 (tE rfl)
                | 10,ho,hsk=>
                  obtain rfl:=Oj9 ho;have e0:a'.eval (.tmp 149)= .bool false:=Qm (hin 9 149 (by kernel_rfl) (by kernel_rfl)) rfl;exact wp_move (.tmp 149) rfl _ e0 (tE rfl)
                | 11,ho,hsk=>
                  cases hsk
                | 12,ho,hsk=>
                  cases hsk
                | 13,ho,hsk=>
                  cases hsk
                | 14,ho,hsk=>
                  cases hsk
                | 15,ho,hsk=>
                  cases hsk
                | 16,ho,hsk=>
                  cases hsk
                | 17,ho,hsk=>
                  obtain rfl:=Oj9 ho;have e0:a'.eval (.tmp 150)= .bool false:=Qm (hin 10 150 (by kernel_rfl) (by kernel_rfl)) rfl;exact ZA (.tmp 150) (.tmp 156) rfl e0 (tE rfl)
              intro w9 hk9;replace hk9:Kept [] W81 w9:=⟨hk9.os,hk9.tape,hk9.output,hk9.size,hk9.block⟩;simp only [valsQ,List.map_cons,List.map_nil,Option.getD_some,Option.getD_none,List.take_succ_cons,List.take_zero,Qz,Act.put,List.setIfInBounds_toArray,List.set_cons_succ,List.set_cons_zero];refine wpAny_done (by kernel_rfl) ?_ _;replace M:=hide ((Qa M).step hk9);clear hk9;go_wp2_with fail
              go_roundw
              case rel=>exact ⟨k+1,by omega,by first | rfl | go_num,hide ((Qa M).less (by simp))⟩
              case measure=>simp [intOf];omega
            · have HQ:Hid (decide (mu=(true,me))=false):=decide_eq_false hq;have hfe:me<E.ep k:=by
                rcases hch rfl with e | e
                · exact absurd e hq
                · exact e
              have hfn:E.fenced k me=true:=by
                unfold Dv.Dev.fenced;rw [decide_eq_true hfe,show Dv.hasN E.N (k:Int)=true from decide_eq_true (by have:=(Qa HG2).n;omega)];rfl
              have PF:=hide (fun W (h:Dv.Dv W b g E)=>Dv.fenced37 b g E k me W h);rw [hfn] at PF;clear hfe hfn;refine wp_region_any mixed (QW 18 rfl (by kernel_rfl) [some (.pointer (some ⟨b81,0,none⟩)),some (.bool true),some (.bool true),some (.int .i64 k),some (.pointer (some ⟨b42,3,none⟩)),some (.pointer (some ⟨b42,3+k*2,none⟩)),some (Qd (Vi.QD mu)),some (Qd (Vi.QD (true,me))),some (.bool true),some (.bool true),some (.bool true),some (P0 b),some (.int .i64 k),some (.pointer (some ⟨b81,1,none⟩)),some (.int .i64 me),some (.bool true),some (.bool false),some (.bool false)] rfl (by kernel_rfl) (by kernel_rfl) ?_ ?_)
              · intro i o' hi hsk ho a' w2 hout hin hk2;replace hk2:Kept [] W81 w2:=⟨hk2.os,hk2.tape,hk2.output,hk2.size,hk2.block⟩
                match i,ho,hsk with
                | 0,ho,hsk=>
                  obtain rfl:=Oj9 ho;exact o_fldM0 (.tmp 14) rfl b81 0 ((hout 14 (by kernel_rfl)).trans rfl) (tE rfl)
                | 1,ho,hsk=>
                  obtain rfl:=Oj9 ho;have e0:a'.eval (.tmp 140)= .pointer (some ⟨b81,0,none⟩):=Qm (hin 0 140 (by kernel_rfl) (by kernel_rfl)) rfl;exact o_ld4 (.tmp 140) rfl _ _ e0 (Qb (((Qa M).step hk2).at 3 _ rfl) 0 _ rfl) (tE rfl)
                | 2,ho,hsk=>
                  obtain rfl:=Oj9 ho;have e0:a'.eval (.tmp 141)= .bool true:=Qm (hin 1 141 (by kernel_rfl) (by kernel_rfl)) rfl;exact wp_move (.tmp 141) rfl _ e0 (tE rfl)
                | 3,ho,hsk=>
                  obtain rfl:=Oj9 ho;exact wp_move (.tmp 13) rfl _ ((hout 13 (by kernel_rfl)).trans rfl) (tE rfl)
                | 4,ho,hsk=>
                  obtain rfl:=Oj9 ho;exact Vi.ZE (.tmp 11) rfl b42 ((hout 11 (by kernel_rfl)).trans rfl) (tE rfl)
                | 5,ho,hsk=>
                  obtain rfl:=Oj9 ho;have e0:a'.eval (.tmp 144)= .pointer (some ⟨b42,3,none⟩):=Qm (hin 4 144 (by kernel_rfl) (by kernel_rfl)) rfl;have e1:a'.eval (.tmp 143)= .int .i64 k:=Qm (hin 3 143 (by kernel_rfl) (by kernel_rfl)) rfl;exact Vi.o_idx24 (.tmp 144) (.tmp 143) rfl b42 k (Qa HK8) e0 e1 (tE rfl)
                | 6,ho,hsk=>
                  obtain rfl:=Oj9 ho;have e0:a'.eval (.tmp 145)= .pointer (some ⟨b42,3+k*2,none⟩):=Qm (hin 5 145 (by kernel_rfl) (by kernel_rfl)) rfl;exact Qw Vi.QC (.tmp 145) rfl b42 (3+k*2) e0 (Vi.QD mu) rfl (Zk (((Qa M).step hk2).at 2 _ rfl) (Qa HMU)) (tE rfl)
                | 7,ho,hsk=>
                  obtain rfl:=Oj9 ho;exact Qw Vi.QC (.tmp 14) rfl b81 0 ((hout 14 (by kernel_rfl)).trans rfl) (Vi.QD (true,me)) rfl (((Qa M).step hk2).at 3 _ rfl).range (tE rfl)
                | 8,ho,hsk=>
                  obtain rfl:=Oj9 ho;have e0:a'.eval (.tmp 146)=Qd (Vi.QD mu):=Qm (hin 6 146 (by kernel_rfl) (by kernel_rfl)) rfl;have e1:a'.eval (.tmp 147)=Qd (Vi.QD (true,me)):=Qm (hin 7 147 (by kernel_rfl) (by kernel_rfl)) rfl;exact Le.o_neqA 26 26 guard26m (.tmp 146) (.tmp 147) rfl (Vi.QD mu) (Vi.QD (true,me)) e0 e1 false ((eq26m _ mu (true,me)).trans (by rw [Qa HQ])) (tE rfl)
                | 9,ho,hsk=>
                  obtain rfl:=Oj9 ho;have e0:a'.eval (.tmp 142)= .bool true:=Qm (hin 2 142 (by kernel_rfl) (by kernel_rfl)) rfl;have e1:a'.eval (.tmp 148)= .bool true:=Qm (hin 8 148 (by kernel_rfl) (by kernel_rfl)) rfl;exact ZB (.tmp 142) (.tmp 148) rfl true e0 e1 (tE rfl)
                | 10,ho,hsk=>
                  obtain rfl:=Oj9 ho;have e0:a'.eval (.tmp 149)= .bool true:=Qm (hin 9 149 (by kernel_rfl) (by kernel_rfl)) rfl;exact wp_move (.tmp 149) rfl _ e0 (tE rfl)
                | 11,ho,hsk=>
                  obtain rfl:=Oj9 ho;exact wp_move (.tmp 5) rfl _ ((hout 5 (by kernel_rfl)).trans rfl) (tE rfl)
                | 12,ho,hsk=>
                  obtain rfl:=Oj9 ho;exact wp_move (.tmp 13) rfl _ ((hout 13 (by kernel_rfl)).trans rfl) (tE rfl)
                | 13,ho,hsk=>
                  obtain rfl:=Oj9 ho;exact o_fldM1 (.tmp 14) rfl b81 0 ((hout 14 (by kernel_rfl)).trans rfl) (tE rfl)
                | 14,ho,hsk=>
                  obtain rfl:=Oj9 ho;have e0:a'.eval (.tmp 153)= .pointer (some ⟨b81,1,none⟩):=Qm (hin 13 153 (by kernel_rfl) (by kernel_rfl)) rfl;exact Za (.tmp 153) rfl _ _ e0 (Qb (((Qa M).step hk2).at 3 _ rfl) 1 _ rfl) (tE rfl)
                | 15,ho,hsk=>
                  obtain rfl:=Oj9 ho;have e0:a'.eval (.tmp 151)=P0 b:=Qm (hin 11 151 (by kernel_rfl) (by kernel_rfl)) rfl;have e1:a'.eval (.tmp 152)= .int .i64 k:=Qm (hin 12 152 (by kernel_rfl) (by kernel_rfl)) rfl;have e2:a'.eval (.tmp 154)= .int .i64 me:=Qm (hin 14 154 (by kernel_rfl) (by kernel_rfl)) rfl;have e2:a'.eval (.tmp 154)= .int .i64 me:=Qm (hin 14 154 (by kernel_rfl) (by kernel_rfl)) rfl;refine Qq 20 _ _ rfl #[P0 b,.int .i64 k,.int .i64 me] (by simp [e0,e1,e2]) (cg20 _ _) ((Qa PF w2 ((Qa M).step hk2).dv).mono ?_);rintro e w3 ⟨rfl,rfl⟩;exact⟨_,rfl,(tE rfl)⟩
                | 16,ho,hsk=>
                  obtain rfl:=Oj9 ho;have e0:a'.eval (.tmp 155)= .bool true:=Qm (hin 15 155 (by kernel_rfl) (by kernel_rfl)) rfl;exact o_not (.tmp 155) rfl true e0 (tE rfl)
                | 17,ho,hsk=>
                  obtain rfl:=Oj9 ho;have e0:a'.eval (.tmp 150)= .bool true:=Qm (hin 10 150 (by kernel_rfl) (by kernel_rfl)) rfl;have e1:a'.eval (.tmp 156)= .bool false:=Qm (hin 16 156 (by kernel_rfl) (by kernel_rfl)) rfl;exact ZB (.tmp 150) (.tmp 156) rfl false e0 e1 (tE rfl)
              intro w9 hk9;replace hk9:Kept [] W81 w9:=⟨hk9.os,hk9.tape,hk9.output,hk9.size,hk9.block⟩;simp only [valsQ,List.map_cons,List.map_nil,Option.getD_some,List.take_succ_cons,List.take_zero,Qz,Act.put,List.setIfInBounds_toArray,List.set_cons_succ,List.set_cons_zero];refine wpAny_done (by kernel_rfl) ?_ _;replace M:=hide ((Qa M).step hk9);clear hk9;go_wp2_with fail
              go_roundw
              case rel=>exact ⟨k+1,by omega,by first | rfl | go_num,hide ((Qa M).less (by simp))⟩
              case measure=>simp [intOf];omega
        · have hd2:decide ((k:Int)<J.n)=false:=decide_eq_false hkn;go_wp2_with (first |(refine Qg Vi.Qn rfl (.tmp 11) rfl b42 0 rfl (Vi.vwC u) (Qa HUL) ((Qa M).at 2 _ rfl).range ?_;refine Stp.go ?_))
          constructor
          go_wp2_with (first |(refine wpStoreZ Vi.Qn rfl (.tmp 7) (.tmp 158) rfl rfl b6 1 (Vi.vwC u) rfl rfl (Qa HUL) (Vi.Ql _) (Qa M) rfl (Qa HVL) ?_;intro W91 N91;replace M:Hid (Pz b g r sg eg E E w W91 [(b1,23,Ar.Qf J),(b6,29,Vi.vwC u),(b42,29,Vi.vwC u)]):=hide N91;clear N91;refine Stp.go ?_))
          constructor
          go_wp2_with fail
          go_roundw
          case rel=>exact ⟨j+1,E,by omega,by first | rfl | go_num,by have h9:=Qa HG2;exact h9,by have h9:=Qa M;rw [show u=(oV E).1 from Qa HUU] at h9;exact h9.less (by simp)⟩
          case measure=>simp [intOf];omega
  · obtain rfl:j=X.length:=by omega
    have hd:decide ((X.length:Int)<(X.length:Int))=false:=by simp
    go_wp2_with (first |(go_at_call 9;refine(known9 _ (Qa M).fst).mono ?_;rintro e W99 ⟨rfl,K99⟩;replace M:=hide ((Qa M).step K99);clear K99;refine Stp.go ?_))
    constructor
    go_wp2_with fail
    go_ret
    exact⟨rfl,kept_all (Qa M).kept (Qa HGE)⟩
theorem fences4 (J:Ar.Job) (ao:Option Addr) (c:Nat) (X:List S6) (w:World) (hF:Vi.First w) (hX:RowS S6.C 6 w ao X):Calls Tryz.prog 4 #[Qd (Ar.Qf J),.slice ao X.length c] w fun x w'=>x= .returned (.bool true)∧Kept [] w w':=by
 cases hm:J.may with
 | false=>exact fences_a J ao c X w hF hm
 | true=>
  cases hl:decide ((80:Int)<(X.length:Int)) with
  | true=>exact fences_b J ao c X w hF hm hl
  | false=>exact fences_c J ao c X w hF hm hl hX
end Go.Proofs.YtcfflbafclmheaaGreatDoor
