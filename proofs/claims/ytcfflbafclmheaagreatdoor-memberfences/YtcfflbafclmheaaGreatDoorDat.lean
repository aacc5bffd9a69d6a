/-
  Texts of the walks of member, shortened.
-/
import Derived.Test.YtcfflbafclmheaaGreatDoorDar
import Derived.Test.YtcfflbafclmheaaGreatDoorDas
set_option maxRecDepth 100000
set_option maxHeartbeats 100000000
set_option linter.unusedSimpArgs false
namespace Go.Proofs.YtcfflbafclmheaaGreatDoor
open Go.RowKit
open Le (Mm Qh Qo)
@[reducible] def S11 (w V:World) (D:Dv.Dev) (d:Nat→Bool) (vs:Nat→Value) (W:World):Prop:=
 Kept [] V W∧∃r sg eg:Nat,(d 4=true→vs 4=P0 r∧(w.heap.size≤r∧w.heap.size≤sg∧w.heap.size≤eg)∧Dv.Rv W r sg eg D)∧(d 5=true→vs 5=P0 r)
theorem S11.loc {w V:World} {D:Dv.Dev} :∀d d' vs vs' W,(∀i∈ [4,5],d i=d' i∧vs i=vs' i)→S11 w V D d vs W→S11 w V D d' vs' W:=by
 intro d d' vs vs' W H h;have e0:=H 4 (by simp);have e1:=H 5 (by simp);unfold S11 at h⊢;rw [← e0.1,← e0.2,← e1.1,← e1.2];exact h
theorem cg36 (vs:Array Value) (w:World):(callFunc 36 vs).run Tryz.prog w= .ok (.enter 36 vs) w:=by kernel_rfl
theorem rv_ne {w:World} {r sg eg q:Nat} {D:Dv.Dev} {vs:List Value} {T:Nat} (h:Dv.Rv w r sg eg D) (hb:Blk w q T vs) (h1:T≠110) (h2:T≠59) (h3:T≠2):q∉ [r,sg,eg]:=by
 obtain⟨cap,ecap,ex,a1,⟨ex',a2,_⟩,a3,_⟩:=h.lay;unfold Blk at hb;intro hm;simp only [List.mem_cons,List.not_mem_nil,or_false] at hm;rcases hm with rfl | rfl | rfl
 · rw [hb] at a1;injection a1 with a1;injection a1 with _ a1;exact h1 a1
 · rw [hb] at a2;injection a2 with a2;injection a2 with _ a2;exact h2 a2
 · rw [hb] at a3;injection a3 with a3;injection a3 with _ a3;exact h3 a3
theorem newRef11 (J:Ar.Job) (hm:J.may=true) (w:World):Calls Tryz.prog 11 #[Qd (Ar.Qf J)] w fun e w'=>∃r sg eg,e= .returned (P0 r)∧(w.heap.size≤r∧w.heap.size≤sg∧w.heap.size≤eg)∧Dv.Rv w' r sg eg (ups (Dv.QY J.sectors.1.toNat J.n.toNat) J.n.toNat)∧Kept [] w w':=by
 have P25:=hide (fun W=>rsect25 J hm W);obtain⟨n,hn⟩:∃x,x=J.sectors.1.toNat:=⟨_,rfl⟩;obtain⟨N,hN⟩:∃x,x=J.n.toNat:=⟨_,rfl⟩;obtain⟨D,hDd⟩:∃x,x=Dv.QY n N:=⟨_,rfl⟩;have HDD:Hid (D=Dv.QY n N):=hDd;have hsec:(n:Int)=J.sectors.1∧1≤n∧n≤4096:=by
   have h9:=hm;simp only [Ar.Job.may,decide_eq_true_eq] at h9;have h1:J.n*(1+2*J.l)≤8*129:=Int.mul_le_mul (by omega) (by omega) (by omega) (by omega);have h2:0≤J.n*(1+2*J.l):=Int.mul_nonneg (by omega) (by omega);have e:J.sectors.1=J.p*2+(J.n*(1+2*J.l)+9):=by unfold Ar.Job.sectors Ar.Job.L;rw [if_pos hm]
   rw [e] at hn⊢;omega
 simp only [Ar.Job.may,decide_eq_true_eq] at hm;have hNn:(N:Int)=J.n:=by omega
 have HNB:Hid (Dv.newB n N=true):=by
   show _=_;simp only [Dv.newB,decide_eq_true_eq];omega
 rw [← hsec.1] at P25;rw [← hn,← hN,← hDd];have hN8:N≤8:=by omega
 have HNN:=hide hNn;clear hn hN hDd hsec hm hNn;go_enter Tryz.func11,Tryz.ntmps11
 go_wp2_with (first |(refine Qp (by rfl) (.tmp 0) (by rfl) (Ar.Qf J) (by kernel_rfl) ?_;intro V q1b e1 B1 K1;have H1:=hide B1;have HK:=hide K1;have HCN:Hid (V.cell? ⟨q1b,0,none⟩=some (.int .i64 (N:Int))):=(by show _=_;rw [Qa HNN];exact Qb B1 0 _ rfl);have HG1:Hid (w.heap.size≤q1b):=(by rw [e1];exact(Nat.le_refl _:w.heap.size≤w.heap.size));clear e1 B1 K1;refine Stp.go ?_))
 constructor
 go_wp2_with fail
 refine wp_region_any mixed (QL 6 rfl (by kernel_rfl) [some (Qd (Ar.Qf J)),some (.int .i64 (n:Int)),some (.pointer (some ⟨q1b,0,none⟩)),some (.int .i64 (N:Int)),none,none] rfl (by kernel_rfl) (fun l_ vs W=>(S11 w V D) (fun i=>l_.getD i false) vs W) (⟨⟨rfl,rfl,rfl,Nat.le_refl _,fun _ _ _=>rfl⟩,0,0,0,(fun h=>by cases h),fun h=>by cases h⟩) ?_ ?_)
 · intro ix o' hi ho a' w2 l_ vs hls hlf hJ hout hin hdep hnot
   match ix,ho with
   | 0,ho=>
     obtain rfl:=Oj9 ho;have e0:=hout 1 (by kernel_rfl);replace e0:a'.eval (.tmp 1)=_:=e0.trans rfl;exact Qw Zv (.tmp 1) rfl q1b 0 e0 (Ar.Qf J) rfl ((Qa H1).kept hJ.1 (by simp)).range ⟨_,rfl,Qe rfl,Le.Qj [4,5] S11.loc (by omega) (by decide) hJ⟩
   | 1,ho=>
     obtain rfl:=Oj9 ho;have e0:a'.eval (.tmp 5)=Qd (Ar.Qf J):=by have h9:=hin 0 5 (by kernel_rfl) (by kernel_rfl);exact h9.1.trans (Qc _ h9.2 rfl)
     refine Qq 25 _ _ rfl #[Qd (Ar.Qf J)] (by simp [e0]) (cg25 _ _) ((Qa P25 w2).mono ?_);rintro e w3 ⟨rfl,hk3⟩;obtain⟨hk0,r,sg,eg,g1,g2⟩:=hJ;exact⟨_,rfl,_,rfl,Qe rfl,Le.Qj [4,5] S11.loc (by omega) (by decide) ⟨hk0.trans hk3,r,sg,eg,(fun h=>by obtain⟨q1,q2,q4⟩:=g1 h;exact⟨q1,q2,q4.kept hk3 (by simp) (by simp) (by simp)⟩),g2⟩⟩
   | 2,ho=>
     obtain rfl:=Oj9 ho;have e0:=hout 1 (by kernel_rfl);replace e0:a'.eval (.tmp 1)=_:=e0.trans rfl;exact o_fldJ_0 (.tmp 1) rfl _ e0 ⟨_,rfl,Qe rfl,Le.Qj [4,5] S11.loc (by omega) (by decide) hJ⟩
   | 3,ho=>
     obtain rfl:=Oj9 ho;have e0:a'.eval (.tmp 7)= .pointer (some ⟨q1b,0,none⟩):=by have h9:=hin 2 7 (by kernel_rfl) (by kernel_rfl);exact h9.1.trans (Qc _ h9.2 rfl)
     exact Ar.Zx (.tmp 7) rfl _ _ e0 (hJ.1.cell (Qa HCN) (by simp)) ⟨_,rfl,Qe rfl,Le.Qj [4,5] S11.loc (by omega) (by decide) hJ⟩
   | 4,ho=>
     obtain rfl:=Oj9 ho;have e0:a'.eval (.tmp 6)= .int .i64 (n:Int):=by have h9:=hin 1 6 (by kernel_rfl) (by kernel_rfl);exact h9.1.trans (Qc _ h9.2 rfl)
     have e1:a'.eval (.tmp 8)= .int .i64 (N:Int):=by have h9:=hin 3 8 (by kernel_rfl) (by kernel_rfl);exact h9.1.trans (Qc _ h9.2 rfl)
     refine Qq 36 _ _ rfl #[.int .i64 (n:Int),.int .i64 (N:Int)] (by simp [e0,e1]) (cg36 _ _) ((Dv.r_new_yes n N w2 (Qa HNB)).mono ?_);rintro e w3 ⟨r,sg,eg,rfl,hb3,hg3,he3,hD3,hk3⟩;have hw2:w.heap.size≤w2.heap.size:=Nat.le_trans (Qa HK).size hJ.1.size;exact⟨_,rfl,_,rfl,QA rfl,Le.QJ (by omega) ⟨hJ.1.trans hk3,r,sg,eg,(fun _=>⟨rfl,⟨by omega,by omega,by omega⟩,by rw [Qa HDD];exact hD3⟩),(fun h=>by have h9:l_.getD 5 false=true:=h;rw [hnot 5 (by kernel_rfl)] at h9;cases h9)⟩⟩
   | 5,ho=>
     obtain rfl:=Oj9 ho;have e0:a'.eval (.tmp 9)=vs 4:=(hin 4 9 (by kernel_rfl) (by kernel_rfl)).1;obtain⟨hk0,r,sg,eg,g1,g2⟩:=hJ;exact QI (.tmp 9) rfl _ e0 ⟨_,rfl,QA rfl,Le.QJ (by omega) ⟨hk0,r,sg,eg,(fun h=>g1 h),(fun _=>(g1 (hdep 4 (by kernel_rfl))).1)⟩⟩
 intro l_ vs9 V9 hl hJ htold;have t0:vs9 0=Qd (Ar.Qf J):=Qc _ (htold 0 (by decide)) rfl;have t1:vs9 1= .int .i64 (n:Int):=Qc _ (htold 1 (by decide)) rfl;have t2:vs9 2= .pointer (some ⟨q1b,0,none⟩):=Qc _ (htold 2 (by decide)) rfl;have t3:vs9 3= .int .i64 (N:Int):=Qc _ (htold 3 (by decide)) rfl;rw [show (List.range 6).map vs9= [vs9 0,vs9 1,vs9 2,vs9 3,vs9 4,vs9 5] from rfl];simp only [t0,t1,t2,t3,Qz,Act.put,List.setIfInBounds_toArray,List.set_cons_succ,List.set_cons_zero];clear t0 t1 t2 t3 htold;obtain⟨hk0,r,sg,eg,g1,g2⟩:=hJ;obtain⟨g5,hb9,hD9⟩:=g1 (hl 4 (by decide));rw [g5,g2 (hl 5 (by decide))];have HD9:=hide hD9;have HB9:=hide hb9;have HC9:Hid (V9.cell? ⟨q1b,0,none⟩=some (.int .i64 (N:Int))):=hk0.cell (Qa HCN) (by simp);have HNE:Hid (q1b∉ [r,eg]):=fun hm=>rv_ne hD9 ((Qa H1).kept hk0 (by simp)) (by decide) (by decide) (by decide) (by simp at hm ⊢;omega);replace HK:=hide ((Qa HK).trans hk0);clear hk0 g1 g2 g5 hl hb9 hD9 HCN H1 P25;go_wp2_with fail
 go_loopw [4] (fun i wr=>∃k:Nat,k≤N∧i= .int .i64 k∧Hid (Dv.Rv wr r sg eg (ups D k))∧Hid (wr.cell? ⟨q1b,0,none⟩=some (.int .i64 (N:Int)))∧Hid (Kept [] w wr)) (fun i _=>N-(intOf i).toNat)
 case atStart=>exact ⟨0,by omega,rfl,HD9,HC9,HK⟩
 case round=>
   clear HD9 HC9 HK;obtain⟨k,hkN,rfl,RD,RC,RK⟩:=hrel;have hcn:=Qa RC;by_cases hlt:k<N
   · have P19:=hide (Dv.r_up r sg eg (ups D k) k wr (Qa RD));go_wp2_with (first |(go_at_call 23;refine(Qa P19).mono ?_;rintro e W8 ⟨rfl,hD8,hk8⟩;have HD8:=hide hD8;have HC8:Hid (W8.cell? ⟨q1b,0,none⟩=some (.int .i64 (N:Int))):=hk8.cell hcn (Qa HNE);have HK8:Hid (Kept [] w W8):=(Qa RK).fresh hk8 (fun i hi hl=>by have:=Qa HB9;simp at hi;omega);clear hD8 hk8))
     go_roundw
     case rel=>exact ⟨k+1,by omega,by go_num,HD8,HC8,HK8⟩
     case measure=>simp [intOf];omega
   · obtain rfl:k=N:=by omega
     go_wp2_with fail
     go_ret
     exact⟨r,sg,eg,rfl,Qa HB9,Qa RD,Qa RK⟩
open Go.RowKit
open Le (Mm Qh Qo)
set_option linter.unusedVariables false in
theorem rmay_0_F:(∀(J:Ar.Job) (w:World) (c0:decide ((2:Int)≤J.n)=false),Calls Tryz.prog 8 #[Qd (Ar.Qf J)] w fun e w'=>e= .returned (.bool false)∧Kept [] w w')∧(∀(J:Ar.Job) (w:World) (c0:decide ((2:Int)≤J.n)=true) (c1:decide (J.n≤8)=false),Calls Tryz.prog 8 #[Qd (Ar.Qf J)] w fun e w'=>e= .returned (.bool false)∧Kept [] w w')∧(∀(J:Ar.Job) (w:World) (c0:decide ((2:Int)≤J.n)=true) (c1:decide (J.n≤8)=true) (c2:decide ((1:Int)≤J.p)=false),Calls Tryz.prog 8 #[Qd (Ar.Qf J)] w fun e w'=>e= .returned (.bool false)∧Kept [] w w')∧(∀(J:Ar.Job) (w:World) (c0:decide ((2:Int)≤J.n)=true) (c1:decide (J.n≤8)=true) (c2:decide ((1:Int)≤J.p)=true) (c3:decide (J.p≤16)=false),Calls Tryz.prog 8 #[Qd (Ar.Qf J)] w fun e w'=>e= .returned (.bool false)∧Kept [] w w')∧(∀(J:Ar.Job) (w:World) (c0:decide ((2:Int)≤J.n)=true) (c1:decide (J.n≤8)=true) (c2:decide ((1:Int)≤J.p)=true) (c3:decide (J.p≤16)=true) (c4:decide ((1:Int)≤J.f)=false),Calls Tryz.prog 8 #[Qd (Ar.Qf J)] w fun e w'=>e= .returned (.bool false)∧Kept [] w w')∧(∀(J:Ar.Job) (w:World) (c0:decide ((2:Int)≤J.n)=true) (c1:decide (J.n≤8)=true) (c2:decide ((1:Int)≤J.p)=true) (c3:decide (J.p≤16)=true) (c4:decide ((1:Int)≤J.f)=true) (c5:decide (J.f≤16)=false),Calls Tryz.prog 8 #[Qd (Ar.Qf J)] w fun e w'=>e= .returned (.bool false)∧Kept [] w w')∧(∀(J:Ar.Job) (w:World) (c0:decide ((2:Int)≤J.n)=true) (c1:decide (J.n≤8)=true) (c2:decide ((1:Int)≤J.p)=true) (c3:decide (J.p≤16)=true) (c4:decide ((1:Int)≤J.f)=true) (c5:decide (J.f≤16)=true) (c6:decide ((2:Int)≤J.l)=false),Calls Tryz.prog 8 #[Qd (Ar.Qf J)] w fun e w'=>e= .returned (.bool false)∧Kept [] w w')∧(∀(J:Ar.Job) (w:World) (c0:decide ((2:Int)≤J.n)=true) (c1:decide (J.n≤8)=true) (c2:decide ((1:Int)≤J.p)=true) (c3:decide (J.p≤16)=true) (c4:decide ((1:Int)≤J.f)=true) (c5:decide (J.f≤16)=true) (c6:decide ((2:Int)≤J.l)=true) (c7:decide (J.l≤64)=false),Calls Tryz.prog 8 #[Qd (Ar.Qf J)] w fun e w'=>e= .returned (.bool false)∧Kept [] w w')∧(∀(J:Ar.Job) (w:World) (c0:decide ((2:Int)≤J.n)=true) (c1:decide (J.n≤8)=true) (c2:decide ((1:Int)≤J.p)=true) (c3:decide (J.p≤16)=true) (c4:decide ((1:Int)≤J.f)=true) (c5:decide (J.f≤16)=true) (c6:decide ((2:Int)≤J.l)=true) (c7:decide (J.l≤64)=true) (c8:decide ((2:Int)≤J.t)=false),Calls Tryz.prog 8 #[Qd (Ar.Qf J)] w fun e w'=>e= .returned (.bool false)∧Kept [] w w')∧(∀(J:Ar.Job) (w:World) (c0:decide ((2:Int)≤J.n)=true) (c1:decide (J.n≤8)=true) (c2:decide ((1:Int)≤J.p)=true) (c3:decide (J.p≤16)=true) (c4:decide ((1:Int)≤J.f)=true) (c5:decide (J.f≤16)=true) (c6:decide ((2:Int)≤J.l)=true) (c7:decide (J.l≤64)=true) (c8:decide ((2:Int)≤J.t)=true) (c9:decide (J.t≤100)=false),Calls Tryz.prog 8 #[Qd (Ar.Qf J)] w fun e w'=>e= .returned (.bool false)∧Kept [] w w')∧(∀(J:Ar.Job) (w:World) (c0:decide ((2:Int)≤J.n)=true) (c1:decide (J.n≤8)=true) (c2:decide ((1:Int)≤J.p)=true) (c3:decide (J.p≤16)=true) (c4:decide ((1:Int)≤J.f)=true) (c5:decide (J.f≤16)=true) (c6:decide ((2:Int)≤J.l)=true) (c7:decide (J.l≤64)=true) (c8:decide ((2:Int)≤J.t)=true) (c9:decide (J.t≤100)=true),Calls Tryz.prog 8 #[Qd (Ar.Qf J)] w fun e w'=>e= .returned (.bool true)∧Kept [] w w'):=by
 refine⟨fun J w c0=> ?_,fun J w c0 c1=> ?_,fun J w c0 c1 c2=> ?_,fun J w c0 c1 c2 c3=> ?_,fun J w c0 c1 c2 c3 c4=> ?_,fun J w c0 c1 c2 c3 c4 c5=> ?_,fun J w c0 c1 c2 c3 c4 c5 c6=> ?_,fun J w c0 c1 c2 c3 c4 c5 c6 c7=> ?_,fun J w c0 c1 c2 c3 c4 c5 c6 c7 c8=> ?_,fun J w c0 c1 c2 c3 c4 c5 c6 c7 c8 c9=> ?_,fun J w c0 c1 c2 c3 c4 c5 c6 c7 c8 c9=> ?_⟩;have d0:=of_decide_eq_false c0
 rotate_left
 have d0:=of_decide_eq_true c0;have d1:=of_decide_eq_false c1
 rotate_left
 have d0:=of_decide_eq_true c0;have d1:=of_decide_eq_true c1;have d2:=of_decide_eq_false c2
 rotate_left
 have d0:=of_decide_eq_true c0;have d1:=of_decide_eq_true c1;have d2:=of_decide_eq_true c2;have d3:=of_decide_eq_false c3
 rotate_left
 have d0:=of_decide_eq_true c0;have d1:=of_decide_eq_true c1;have d2:=of_decide_eq_true c2;have d3:=of_decide_eq_true c3;have d4:=of_decide_eq_false c4
 rotate_left
 have d0:=of_decide_eq_true c0;have d1:=of_decide_eq_true c1;have d2:=of_decide_eq_true c2;have d3:=of_decide_eq_true c3;have d4:=of_decide_eq_true c4;have d5:=of_decide_eq_false c5
 rotate_left
 have d0:=of_decide_eq_true c0;have d1:=of_decide_eq_true c1;have d2:=of_decide_eq_true c2;have d3:=of_decide_eq_true c3;have d4:=of_decide_eq_true c4;have d5:=of_decide_eq_true c5;have d6:=of_decide_eq_false c6
 rotate_left
 have d0:=of_decide_eq_true c0;have d1:=of_decide_eq_true c1;have d2:=of_decide_eq_true c2;have d3:=of_decide_eq_true c3;have d4:=of_decide_eq_true c4;have d5:=of_decide_eq_true c5;have d6:=of_decide_eq_true c6;have d7:=of_decide_eq_false c7
 rotate_left
 have d0:=of_decide_eq_true c0;have d1:=of_decide_eq_true c1;have d2:=of_decide_eq_true c2;have d3:=of_decide_eq_true c3;have d4:=of_decide_eq_true c4;have d5:=of_decide_eq_true c5;have d6:=of_decide_eq_true c6;have d7:=of_decide_eq_true c7;have d8:=of_decide_eq_false c8
 rotate_left
 have d0:=of_decide_eq_true c0;have d1:=of_decide_eq_true c1;have d2:=of_decide_eq_true c2;have d3:=of_decide_eq_true c3;have d4:=of_decide_eq_true c4;have d5:=of_decide_eq_true c5;have d6:=of_decide_eq_true c6;have d7:=of_decide_eq_true c7;have d8:=of_decide_eq_true c8;have d9:=of_decide_eq_false c9
 rotate_left
 have d0:=of_decide_eq_true c0;have d1:=of_decide_eq_true c1;have d2:=of_decide_eq_true c2;have d3:=of_decide_eq_true c3;have d4:=of_decide_eq_true c4;have d5:=of_decide_eq_true c5;have d6:=of_decide_eq_true c6;have d7:=of_decide_eq_true c7;have d8:=of_decide_eq_true c8;have d9:=of_decide_eq_true c9
 rotate_left
 all_goals
  go_enter Tryz.func8,Tryz.ntmps8
  go_wp2_with (first |(refine Qp (by rfl) (.tmp 0) (by rfl) (Ar.Qf J) (by kernel_rfl) ?_;intro V1 b1 e1 B1 K1;have HK:=hide K1;have f0:=Qb B1 0 (.int .i64 J.n) rfl;have f1:=Qb B1 1 (.int .i64 J.p) rfl;have f2:=Qb B1 2 (.int .i64 J.f) rfl;have f3:=Qb B1 3 (.int .i64 J.l) rfl;have f4:=Qb B1 4 (.int .i64 J.t) rfl;clear e1 B1 K1;refine Stp.go ?_))
  constructor
  go_wp2_with fail
  go_ret
  exact⟨rfl,Qa HK⟩
theorem rmay8 (J:Ar.Job) (w:World):Calls Tryz.prog 8 #[Qd (Ar.Qf J)] w fun e w'=>e= .returned (.bool J.may)∧Kept [] w w':=by
 by_cases c0:(2:Int)≤J.n
 · skip
   by_cases c1:J.n≤8
   · skip
     by_cases c2:(1:Int)≤J.p
     · skip
       by_cases c3:J.p≤16
       · skip
         by_cases c4:(1:Int)≤J.f
         · skip
           by_cases c5:J.f≤16
           · skip
             by_cases c6:(2:Int)≤J.l
             · skip
               by_cases c7:J.l≤64
               · skip
                 by_cases c8:(2:Int)≤J.t
                 · skip
                   by_cases c9:J.t≤100
                   · skip
                     have e:J.may=true:=by unfold Ar.Job.may;exact decide_eq_true (by omega)
                     rw [e];exact rmay_0_F.2.2.2.2.2.2.2.2.2.2 J w (decide_eq_true c0) (decide_eq_true c1) (decide_eq_true c2) (decide_eq_true c3) (decide_eq_true c4) (decide_eq_true c5) (decide_eq_true c6) (decide_eq_true c7) (decide_eq_true c8) (decide_eq_true c9)
                   · have e:J.may=false:=by unfold Ar.Job.may;exact decide_eq_false (by omega)
                     rw [e];exact rmay_0_F.2.2.2.2.2.2.2.2.2.1 J w (decide_eq_true c0) (decide_eq_true c1) (decide_eq_true c2) (decide_eq_true c3) (decide_eq_true c4) (decide_eq_true c5) (decide_eq_true c6) (decide_eq_true c7) (decide_eq_true c8) (decide_eq_false c9)
                 · have e:J.may=false:=by unfold Ar.Job.may;exact decide_eq_false (by omega)
                   rw [e];exact rmay_0_F.2.2.2.2.2.2.2.2.1 J w (decide_eq_true c0) (decide_eq_true c1) (decide_eq_true c2) (decide_eq_true c3) (decide_eq_true c4) (decide_eq_true c5) (decide_eq_true c6) (decide_eq_true c7) (decide_eq_false c8)
               · have e:J.may=false:=by unfold Ar.Job.may;exact decide_eq_false (by omega)
                 rw [e];exact rmay_0_F.2.2.2.2.2.2.2.1 J w (decide_eq_true c0) (decide_eq_true c1) (decide_eq_true c2) (decide_eq_true c3) (decide_eq_true c4) (decide_eq_true c5) (decide_eq_true c6) (decide_eq_false c7)
             · have e:J.may=false:=by unfold Ar.Job.may;exact decide_eq_false (by omega)
               rw [e];exact rmay_0_F.2.2.2.2.2.2.1 J w (decide_eq_true c0) (decide_eq_true c1) (decide_eq_true c2) (decide_eq_true c3) (decide_eq_true c4) (decide_eq_true c5) (decide_eq_false c6)
           · have e:J.may=false:=by unfold Ar.Job.may;exact decide_eq_false (by omega)
             rw [e];exact rmay_0_F.2.2.2.2.2.1 J w (decide_eq_true c0) (decide_eq_true c1) (decide_eq_true c2) (decide_eq_true c3) (decide_eq_true c4) (decide_eq_false c5)
         · have e:J.may=false:=by unfold Ar.Job.may;exact decide_eq_false (by omega)
           rw [e];exact rmay_0_F.2.2.2.2.1 J w (decide_eq_true c0) (decide_eq_true c1) (decide_eq_true c2) (decide_eq_true c3) (decide_eq_false c4)
       · have e:J.may=false:=by unfold Ar.Job.may;exact decide_eq_false (by omega)
         rw [e];exact rmay_0_F.2.2.2.1 J w (decide_eq_true c0) (decide_eq_true c1) (decide_eq_true c2) (decide_eq_false c3)
     · have e:J.may=false:=by unfold Ar.Job.may;exact decide_eq_false (by omega)
       rw [e];exact rmay_0_F.2.2.1 J w (decide_eq_true c0) (decide_eq_true c1) (decide_eq_false c2)
   · have e:J.may=false:=by unfold Ar.Job.may;exact decide_eq_false (by omega)
     rw [e];exact rmay_0_F.2.1 J w (decide_eq_true c0) (decide_eq_false c1)
 · have e:J.may=false:=by unfold Ar.Job.may;exact decide_eq_false (by omega)
   rw [e];exact rmay_0_F.1 J w  (decide_eq_false c0)
def rwho (D:Dv.Dev) (J:Ar.Job) (n ep:Int):Int:=if n<0∨J.n≤n then 2 else if ep<1∨(D.epoch n).1<ep then 2 else if ep<(D.epoch n).1 then 8 else 0
theorem who96 (r sg eg:Nat) (D:Dv.Dev) (J:Ar.Job) (n ep:Int) (w:World) (h:Dv.Rv w r sg eg D):Calls Tryz.prog 96 #[P0 r,Qd (Ar.Qf J),.int .i64 n,.int .i64 ep] w fun e w'=>e= .returned (.int .i64 (rwho D J n ep))∧Kept [] w w':=by
 obtain⟨hs,hs9⟩:∃x,x=(D.epoch n).1:=⟨_,rfl⟩;have HE:=hide (fun W (hk:Kept [] w W)=>Dv.r_epoch r sg eg D n W (h.kept hk (by simp) (by simp) (by simp)));obtain⟨q,hq⟩:∃x,x=rwho D J n ep:=⟨_,rfl⟩;have HQ:Hid (q=rwho D J n ep):=hq;rw [← hq];unfold rwho at hq;rw [← hs9] at hq HE;obtain⟨e2,he2⟩:∃x,x=(D.epoch n).2:=⟨_,rfl⟩;rw [← he2] at HE;clear he2 hs9 HQ h;by_cases c1:n<0
 · rw [if_pos (Or.inl c1)] at hq;subst hq;go_enter Tryz.func96,Tryz.ntmps96
   go_wp2_with (first |(refine Qp (by rfl) (.tmp 1) (by rfl) (Ar.Qf J) (by kernel_rfl) ?_;intro V1 b1 e1 B1 K1;have f0:=Qb B1 0 (.int .i64 J.n) rfl;have PE:=hide (Qa HE V1 K1);have HK:=hide K1;clear e1 B1 K1;refine Stp.go ?_))
   constructor
   go_wp2_with (first |(go_at_call 37;refine(Qa PE).mono ?_;rintro e W8 ⟨rfl,rfl⟩))
   go_ret
   exact⟨rfl,Qa HK⟩
 · by_cases c2:J.n≤n
   · rw [if_pos (Or.inr c2)] at hq;subst hq;go_enter Tryz.func96,Tryz.ntmps96
     go_wp2_with (first |(refine Qp (by rfl) (.tmp 1) (by rfl) (Ar.Qf J) (by kernel_rfl) ?_;intro V1 b1 e1 B1 K1;have f0:=Qb B1 0 (.int .i64 J.n) rfl;have PE:=hide (Qa HE V1 K1);have HK:=hide K1;clear e1 B1 K1;refine Stp.go ?_))
     constructor
     go_wp2_with (first |(go_at_call 37;refine(Qa PE).mono ?_;rintro e W8 ⟨rfl,rfl⟩))
     go_ret
     exact⟨rfl,Qa HK⟩
   · rw [if_neg (by omega)] at hq;by_cases c3:ep<1
     · rw [if_pos (Or.inl c3)] at hq;subst hq;go_enter Tryz.func96,Tryz.ntmps96
       go_wp2_with (first |(refine Qp (by rfl) (.tmp 1) (by rfl) (Ar.Qf J) (by kernel_rfl) ?_;intro V1 b1 e1 B1 K1;have f0:=Qb B1 0 (.int .i64 J.n) rfl;have PE:=hide (Qa HE V1 K1);have HK:=hide K1;clear e1 B1 K1;refine Stp.go ?_))
       constructor
       go_wp2_with (first |(go_at_call 37;refine(Qa PE).mono ?_;rintro e W8 ⟨rfl,rfl⟩))
       go_ret
       exact⟨rfl,Qa HK⟩
     · by_cases c4:hs<ep
       · rw [if_pos (Or.inr c4)] at hq;subst hq;go_enter Tryz.func96,Tryz.ntmps96
         go_wp2_with (first |(refine Qp (by rfl) (.tmp 1) (by rfl) (Ar.Qf J) (by kernel_rfl) ?_;intro V1 b1 e1 B1 K1;have f0:=Qb B1 0 (.int .i64 J.n) rfl;have PE:=hide (Qa HE V1 K1);have HK:=hide K1;clear e1 B1 K1;refine Stp.go ?_))
         constructor
         go_wp2_with (first |(go_at_call 37;refine(Qa PE).mono ?_;rintro e W8 ⟨rfl,rfl⟩))
         go_ret
         exact⟨rfl,Qa HK⟩
       · rw [if_neg (by omega)] at hq;by_cases c5:ep<hs
         · rw [if_pos c5] at hq;subst hq;go_enter Tryz.func96,Tryz.ntmps96
           go_wp2_with (first |(refine Qp (by rfl) (.tmp 1) (by rfl) (Ar.Qf J) (by kernel_rfl) ?_;intro V1 b1 e1 B1 K1;have f0:=Qb B1 0 (.int .i64 J.n) rfl;have PE:=hide (Qa HE V1 K1);have HK:=hide K1;clear e1 B1 K1;refine Stp.go ?_))
           constructor
           go_wp2_with (first |(go_at_call 37;refine(Qa PE).mono ?_;rintro e W8 ⟨rfl,rfl⟩))
           go_ret
           exact⟨rfl,Qa HK⟩
         · rw [if_neg c5] at hq;subst hq;go_enter Tryz.func96,Tryz.ntmps96
           go_wp2_with (first |(refine Qp (by rfl) (.tmp 1) (by rfl) (Ar.Qf J) (by kernel_rfl) ?_;intro V1 b1 e1 B1 K1;have f0:=Qb B1 0 (.int .i64 J.n) rfl;have PE:=hide (Qa HE V1 K1);have HK:=hide K1;clear e1 B1 K1;refine Stp.go ?_))
           constructor
           go_wp2_with (first |(go_at_call 37;refine(Qa PE).mono ?_;rintro e W8 ⟨rfl,rfl⟩))
           go_ret
           exact⟨rfl,Qa HK⟩
open Go.RowKit
open Le (Mm Qh Qo)
set_option linter.unusedVariables false in
theorem rml_0_F:(∀(l:Le.Le) (w:World) (c0:decide (0≤l.ep)=false),Calls Tryz.prog 99 #[Qd (Le.Le.C l)] w fun e w'=>e= .returned (.bool false)∧Kept [] w w')∧(∀(l:Le.Le) (w:World) (c0:decide (0≤l.ep)=true) (c1:decide (l.ep≤2147483647)=false),Calls Tryz.prog 99 #[Qd (Le.Le.C l)] w fun e w'=>e= .returned (.bool false)∧Kept [] w w')∧(∀(l:Le.Le) (w:World) (c0:decide (0≤l.ep)=true) (c1:decide (l.ep≤2147483647)=true) (c2:decide (0≤l.be)=false),Calls Tryz.prog 99 #[Qd (Le.Le.C l)] w fun e w'=>e= .returned (.bool false)∧Kept [] w w')∧(∀(l:Le.Le) (w:World) (c0:decide (0≤l.ep)=true) (c1:decide (l.ep≤2147483647)=true) (c2:decide (0≤l.be)=true) (c3:decide (l.be≤4611686018427387904)=false),Calls Tryz.prog 99 #[Qd (Le.Le.C l)] w fun e w'=>e= .returned (.bool false)∧Kept [] w w')∧(∀(l:Le.Le) (w:World) (c0:decide (0≤l.ep)=true) (c1:decide (l.ep≤2147483647)=true) (c2:decide (0≤l.be)=true) (c3:decide (l.be≤4611686018427387904)=true) (c4:decide (0≤l.re)=false),Calls Tryz.prog 99 #[Qd (Le.Le.C l)] w fun e w'=>e= .returned (.bool false)∧Kept [] w w')∧(∀(l:Le.Le) (w:World) (c0:decide (0≤l.ep)=true) (c1:decide (l.ep≤2147483647)=true) (c2:decide (0≤l.be)=true) (c3:decide (l.be≤4611686018427387904)=true) (c4:decide (0≤l.re)=true) (c5:decide (l.re≤4611686018427387904)=false),Calls Tryz.prog 99 #[Qd (Le.Le.C l)] w fun e w'=>e= .returned (.bool false)∧Kept [] w w')∧(∀(l:Le.Le) (w:World) (c0:decide (0≤l.ep)=true) (c1:decide (l.ep≤2147483647)=true) (c2:decide (0≤l.be)=true) (c3:decide (l.be≤4611686018427387904)=true) (c4:decide (0≤l.re)=true) (c5:decide (l.re≤4611686018427387904)=true),Calls Tryz.prog 99 #[Qd (Le.Le.C l)] w fun e w'=>e= .returned (.bool true)∧Kept [] w w'):=by
 refine⟨fun l w c0=> ?_,fun l w c0 c1=> ?_,fun l w c0 c1 c2=> ?_,fun l w c0 c1 c2 c3=> ?_,fun l w c0 c1 c2 c3 c4=> ?_,fun l w c0 c1 c2 c3 c4 c5=> ?_,fun l w c0 c1 c2 c3 c4 c5=> ?_⟩
 rotate_left
 rotate_left
 rotate_left
 rotate_left
 rotate_left
 rotate_left
 rotate_left
 all_goals
  go_enter Tryz.func99,Tryz.ntmps99
  go_wp2_with (first |(refine Qp (by rfl) (.tmp 0) (by rfl) (Le.Le.C l) (by kernel_rfl) ?_;intro V1 b1 e1 B1 K1;have HK:=hide K1;have f0:=Qb B1 0 (.int .i64 l.ep) rfl;have f1:=Qb B1 1 (.int .i64 l.be) rfl;have f2:=Qb B1 2 (.int .i64 l.re) rfl;clear e1 B1 K1;refine Stp.go ?_))
  constructor
  go_wp2_with fail
  go_ret
  exact⟨rfl,Qa HK⟩
theorem mayLease99 (l:Le.Le) (w:World):Calls Tryz.prog 99 #[Qd (Le.Le.C l)] w fun e w'=>e= .returned (.bool l.may)∧Kept [] w w':=by
 by_cases c0:0≤l.ep
 · skip
   by_cases c1:l.ep≤2147483647
   · skip
     by_cases c2:0≤l.be
     · skip
       by_cases c3:l.be≤4611686018427387904
       · skip
         by_cases c4:0≤l.re
         · skip
           by_cases c5:l.re≤4611686018427387904
           · skip
             have e:l.may=true:=by unfold Le.Le.may;exact decide_eq_true ⟨c0,c1,c2,c3,c4,c5⟩
             rw [e];exact rml_0_F.2.2.2.2.2.2 l w (decide_eq_true c0) (decide_eq_true c1) (decide_eq_true c2) (decide_eq_true c3) (decide_eq_true c4) (decide_eq_true c5)
           · have e:l.may=false:=by unfold Le.Le.may;exact decide_eq_false (fun h=>c5 h.2.2.2.2.2)
             rw [e];exact rml_0_F.2.2.2.2.2.1 l w (decide_eq_true c0) (decide_eq_true c1) (decide_eq_true c2) (decide_eq_true c3) (decide_eq_true c4) (decide_eq_false c5)
         · have e:l.may=false:=by unfold Le.Le.may;exact decide_eq_false (fun h=>c4 h.2.2.2.2.1)
           rw [e];exact rml_0_F.2.2.2.2.1 l w (decide_eq_true c0) (decide_eq_true c1) (decide_eq_true c2) (decide_eq_true c3) (decide_eq_false c4)
       · have e:l.may=false:=by unfold Le.Le.may;exact decide_eq_false (fun h=>c3 h.2.2.2.1)
         rw [e];exact rml_0_F.2.2.2.1 l w (decide_eq_true c0) (decide_eq_true c1) (decide_eq_true c2) (decide_eq_false c3)
     · have e:l.may=false:=by unfold Le.Le.may;exact decide_eq_false (fun h=>c2 h.2.2.1)
       rw [e];exact rml_0_F.2.2.1 l w (decide_eq_true c0) (decide_eq_true c1) (decide_eq_false c2)
   · have e:l.may=false:=by unfold Le.Le.may;exact decide_eq_false (fun h=>c1 h.2.1)
     rw [e];exact rml_0_F.2.1 l w (decide_eq_true c0) (decide_eq_false c1)
 · have e:l.may=false:=by unfold Le.Le.may;exact decide_eq_false (fun h=>c0 h.1)
   rw [e];exact rml_0_F.1 l w  (decide_eq_false c0)
open Go.RowKit
open Le (Mm Qh Qo)
namespace Le
theorem said112 (k o:Nat) (s:List Int) (w:World) (hs:Byts 64 s) (ho:o+k≤64):Calls Tryz.prog 112 #[Qd (u8s s),.int .i64 o,.int .i64 k] w fun e w'=>e= .returned (.int .i64 (ofB 0 ((s.drop o).take k)))∧Kept [] w w':=by
 have hkI:(k:Int)≤64:=by omega
 have hoI:(o:Int)≤64:=by omega
 go_enter Tryz.func112,Tryz.ntmps112
 have M:Hid (Mm [] w w []):=hide Mm.init;go_wp2_with (first |(refine Qp rfl (.tmp 0) rfl (u8s s) rfl ?_;intro W1 b1 e1 B1 K1;replace M:=hide ((Qa M).new e1 B1 K1);clear e1 B1 K1;refine Stp.go ?_))
 constructor
 go_wp2_with fail
 go_loopw [7,8] (fun xn xi wr=>∃(j:Nat) (q:Int),j≤k∧xn= .int .i64 q∧xi= .int .i64 j∧Hid (I64 q)∧Hid (ofB 0 ((s.drop o).take k)=ofB q (((s.drop o).take k).drop j))∧Hid (Mm [] w wr [(b1,59,u8s s)])) (fun _ i _=>k-(intOf i).toNat)
 case atStart=>exact ⟨0,0,by omega,rfl,rfl,⟨by decide,by decide⟩,by show _=_;simp,M⟩
 case round=>
  clear M;obtain⟨j,q,hj,rfl,rfl,HQ,HE,M⟩:=hrel;by_cases hlt:j<k
  · obtain⟨x,hx⟩:∃x,s[o+j]?=some x:=⟨_,List.getElem?_eq_getElem (by rw [hs.len];omega)⟩;have hjk:(j:Int)<(k:Int):=by omega
    have hd:decide ((j:Int)<(k:Int))=true:=by simpa using hjk
    have hx8:=hs.byte x (List.mem_of_getElem? hx);have hc:wr.cell? ⟨b1,o+j,none⟩=some (.int .u8 x):=by
     rw [((Qa M).at 0 _ rfl).cell];simp only [u8s,List.getElem?_map];rw [hx];rfl
    have hq:=Qa HQ;obtain⟨q1,q2⟩:=hq;obtain⟨x1,x2⟩:=hx8;have HE2:Hid (ofB 0 ((s.drop o).take k)=ofB (wrap64 (q*256+x)) (((s.drop o).take k).drop (j+1))):=by
     show _=_;have h1:((s.drop o).take k)[j]?=some x:=by rw [List.getElem?_take_of_lt hlt,List.getElem?_drop];exact hx
     obtain⟨h2,h3⟩:=List.getElem?_eq_some_iff.1 h1;rw [Qa HE,List.drop_eq_getElem_cons h2,h3,ofB]
    have hoj:(o:Int)+(j:Int)<64:=by omega
    have HT:Hid (((o:Int)+(j:Int)).toNat=o+j):=by show _=_;omega
    clear hx HE;go_wp2_with fail
    go_roundw
    case rel=>exact ⟨j+1,wrap64 (q*256+x),by omega,by rw [wrap_two],by go_num,w64_i _,HE2,M⟩
    case measure=>simp [intOf];omega
  · have hd:decide ((j:Int)<(k:Int))=false:=by simp;omega
    go_wp2_with fail
    go_ret
    have h9:=Qa HE;have hD:((s.drop o).take k).drop j= []:=List.drop_of_length_le (by rw [List.length_take];omega);rw [hD,ofB] at h9;exact⟨by rw [h9];rfl,(Qa M).kept⟩
end Le
open Go.RowKit
open Le (Mm Qh Qo)
section
variable {ops:Array Oper} {rest:List Oper} {op:Oper} {a:Act} {w w0:World} {Q:Exit→Act→World→Prop} {bs:List (Nat×Nat×List Value)}
theorem wpRem256 (hgd:op.guard=none) (x:Operand) (ho:op.op= .binOp .rem 2 x (.const (.int .i64 256)) 2) (m:Int) (hm:0≤m∧m≤9223372036854775807) (hx:a.eval x= .int .i64 m)
  (h:wpList Tryz.prog ops Q rest (a.put op.dst (.int .i64 (m%256))) w):wpList Tryz.prog ops Q (op::rest) a w:=
 wpList_plain hgd fun K hK=>by
  have ht:Int.tmod m 256=m%256:=Int.tmod_eq_emod_of_nonneg hm.1;unfold Oper.wp execOp;simp only [ho,hx];simp [go_sem,Act.eval,ht];exact hK _ _ h
theorem wpQuo256 (hgd:op.guard=none) (x:Operand) (ho:op.op= .binOp .quo 2 x (.const (.int .i64 256)) 2) (m:Int) (hm:0≤m∧m≤9223372036854775807) (hx:a.eval x= .int .i64 m)
  (h:wpList Tryz.prog ops Q rest (a.put op.dst (.int .i64 (m/256))) w):wpList Tryz.prog ops Q (op::rest) a w:=
 wpList_plain hgd fun K hK=>by
  have ht:Int.tdiv m 256=m/256:=Int.tdiv_eq_ediv_of_nonneg hm.1;have hw:IntKind.i64.wrap (m/256)=m/256:=by rw [IntKind.wrap_i64];omega
  unfold Oper.wp execOp;simp only [ho,hx];simp [go_sem,Act.eval,ht,hw];exact hK _ _ h
theorem wpStoreMT {T TT:Nat} {X:List Nat} {us:List Value} (hs:(Tryz.prog.info? T).map (·.size)=some 1) (hgd:op.guard=none) (x y:Operand) (ho:op.op= .store T x y) (hd:op.dst=none) (b off i:Nat) (v:Value) (h1:Le.One v) (hx:a.eval x= .pointer (some ⟨b,off,none⟩)) (hy:a.eval y=v) (hM:Mm X w0 w bs) (vs:List Value) (he:us.set off v=vs) (hi:bs[i]?=some (b,TT,us)) (hl:off<us.length)
  (h:∀W,Mm X w0 W (bs.set i (b,TT,vs))→wpList Tryz.prog ops Q rest a W):wpList Tryz.prog ops Q (op::rest) a w:=by
 subst he;exact Qo hs hgd x y ho hd b off i v h1 hx hy hM hi hl h
end
theorem set_in (A B:List Int) (x y:Int) (n:Nat) (h:A.length=n):(u8s (A++x::B)).set n (.int .u8 y)=u8s (A++y::B):=by rw [Vi.u8s_set,Vi.set_at _ _ _ _ _ h]
theorem take_succ_get (mid:List Int) (k:Nat) (h:k<mid.length):∃z,mid.take (k+1)=mid.take k++ [z]:=⟨mid[k],(List.take_append_getElem h).symm⟩
theorem lay145 (b k o:Nat) (x:Int) (pre mid post:List Int) (w:World) (hB:Blk w b 59 (u8s (pre++mid++post))) (hp:pre.length=o) (hm:mid.length=k) (hl:(pre++mid++post).length=64) (hx:0≤x∧x≤9223372036854775807):Calls Tryz.prog 145 #[P0 b,.int .i64 o,.int .i64 k,.int .i64 x] w fun e w'=>e= .returned (.tuple #[])∧Blk w' b 59 (u8s (pre++Vi.be k x++post))∧Kept [b] w w':=by
 have hok:o+k≤64:=by simp at hl;omega
 have hkI:(k:Int)≤64:=by omega
 have hoI:(o:Int)≤64:=by omega
 have HM:=hide hm;have HP:=hide hp;have HHL:=hide hl;have M:Hid (Mm [b] w w [(b,59,u8s (pre++(mid.take k++ [])++post))]):=by rw [List.append_nil,List.take_of_length_le (by omega)];exact Le.Mm.one hB
 obtain⟨R,hR⟩:∃R,R=Vi.be k x:=⟨_,rfl⟩;have HR:Hid (R=Vi.be k x++ []):=by show _=_;rw [List.append_nil];exact hR
 rw [← hR];clear hR hB hm hp hl;go_enter Tryz.func145,Tryz.ntmps145
 go_wp2_with fail
 go_loopw [3,8] (fun xv xi wr=>∃(j:Nat) (y:Int) (tl:List Int),j≤k∧xv= .int .i64 y∧xi= .int .i64 ((j:Int)-1)∧Hid (0≤y∧y≤9223372036854775807)∧Hid (R=Vi.be j y++tl)∧Hid (Mm [b] w wr [(b,59,u8s (pre++(mid.take j++tl)++post))])) (fun _ i _=>(intOf i+1).toNat)
 case atStart=>exact ⟨k,x,[],by omega,rfl,by go_num,hx,HR,M⟩
 case round=>
  clear M HR;obtain⟨j,y,tl,hj,rfl,rfl,HY,HR,M⟩:=hrel;cases j with
  | zero=>
   have hd:decide (0≤((0:Nat):Int)-1)=false:=by decide
   have h9:=Qa M;have h8:=Qa HR;rw [Vi.be,List.nil_append] at h8;rw [List.take_zero,List.nil_append,← h8] at h9;replace M:=hide h9;clear h9 h8 HR;go_wp2_with fail
   refine bodyPost_end (results_none rfl _ _ _) rfl ?_;exact⟨rfl,(Qa M).at 0 _ rfl,(Qa M).kept⟩
  | succ j=>
   have e1:((j+1:Nat):Int)-1=(j:Int):=by omega
   rw [e1];clear e1;have hoj:(o:Int)+(j:Int)<64:=by omega
   obtain⟨z,hz⟩:=take_succ_get mid j (by rw [Qa HM];omega);have HAL:Hid ((pre++mid.take j).length=o+j):=by show _=_;rw [List.length_append,Qa HP,List.length_take,Qa HM];omega
   have h9:=Qa M;rw [hz,show pre++(mid.take j++ [z]++tl)++post=(pre++mid.take j)++z::(tl++post) by simp] at h9;replace M:=hide h9;have HLT:Hid (o+j<(u8s ((pre++mid.take j)++z::(tl++post))).length):=by
    show _<_;rw [Qy,List.length_append,Qa HAL];simp
   have HQ2:Hid (0≤y/256∧y/256≤9223372036854775807):=by have:=Qa HY;constructor <;> omega
   have HE2:Hid (R=Vi.be j (y/256)++(y%256::tl)):=by show _=_;rw [Qa HR,Vi.be];simp
   have hyb:0≤y%256∧y%256<256:=by omega
   have HT:Hid (((o:Int)+(j:Int)).toNat=o+j):=by show _=_;omega
   clear h9 HR hz;go_wp2_with (first |(refine wpRem256 rfl (.tmp 19) rfl y (Qa HY) rfl ?_;refine Stp.go ?_))
   constructor
   go_wp2_with (first |(refine wpStoreMT Le.size5 rfl (.tmp 23) (.tmp 21) rfl rfl b (o+j) 0 (.int .u8 (y%256)) ⟨rfl,rfl⟩ (by first | rfl |(simp;done)) (by first | rfl |(show Value.int _ _=_;congr 1;omega)) (Qa M) (u8s ((pre++mid.take j)++(y%256)::(tl++post))) (set_in _ _ _ _ _ (Qa HAL)) rfl (Qa HLT) ?_;intro W61 N61;replace M:Hid (Mm [b] w W61 [(b,59,u8s ((pre++mid.take j)++(y%256)::(tl++post)))]):=hide N61;clear N61;refine Stp.go ?_))
   constructor
   go_wp2_with (first |(refine wpQuo256 rfl (.tmp 24) rfl y (Qa HY) rfl ?_;refine Stp.go ?_))
   constructor
   go_wp2_with fail
   go_roundw
   case rel=>exact ⟨j,y/256,y%256::tl,by omega,rfl,by first | rfl | go_num,HQ2,HE2,by have h9:=Qa M;rw [show (pre++mid.take j)++(y%256)::(tl++post)=pre++(mid.take j++(y%256::tl))++post by simp] at h9;exact h9⟩
   case measure=>simp [intOf]
open Go.RowKit
open Le (Mm Qh Qo)
theorem res113 (w:World) (z:Nat) (vs:List Value) (tmps:Array Value) (h4:tmps[2]?.getD undef=P0 z) (hl:vs.length=64) (hb:Blk w z 59 vs):(results Tryz.f113 tmps).run Tryz.prog w= .ok (Qd vs) w:=by
 have:=Zq Vi.Zc hl hb;simp [results,Tryz.results113,h4,this,asAddr]
theorem may_ep {v:Vi.Vw} (h:v.may=true) (h0:v.nu≠0) {m:Bool×Int} (hm:m∈v.ms):0≤m.2∧m.2≤2147483647:=by
 unfold Vi.Vw.may at h;rw [if_neg h0] at h;simp only [Bool.and_eq_true] at h;have h9:=List.all_eq_true.1 h.2.2 m hm;unfold Vi.Zy Vi.isEp at h9;split at h9 <;> simp at h9 <;> constructor <;> omega
theorem rput_z (v:Vi.Vw) (w:World) (hq:v.nu=0):Calls Tryz.prog 113 #[Qd (Vi.vwC v)] w fun e w'=>e= .returned (Qd (u8s (Vi.zs 64)))∧Kept [] w w':=by
 go_enter Tryz.func113,Tryz.ntmps113
 have M:Hid (Mm [] w w []):=hide Mm.init;go_wp2_with (first |(refine Qp rfl (.tmp 0) rfl (Vi.vwC v) rfl ?_;intro W1 b1 e1 B1 K1;replace M:=hide ((Qa M).new e1 B1 K1);clear e1 B1 K1;refine Stp.go ?_))
 constructor
 go_wp2_with (first |(refine Qv (u8s (Vi.zs 64)) Vi.ZI 2 rfl rfl rfl ?_;intro W2 b2 e2 B2 K2;replace M:=hide ((Qa M).new e2 B2 K2);clear e2 B2 K2;refine Stp.go ?_))
 constructor
 go_wp2_with (first |(refine Qv (u8s (Vi.zs 64)) Vi.ZI 3 rfl rfl rfl ?_;intro W3 b3 e3 B3 K3;replace M:=hide ((Qa M).new e3 B3 K3);clear e3 B3 K3;have c0:=Qb ((Qa M).at 0 _ rfl) 0 (.int .i64 v.nu) rfl;refine Stp.go ?_))
 constructor
 rw [hq] at c0;go_wp2_with (first |(refine Qg Vi.Zc rfl (.tmp 3) rfl b3 0 rfl (u8s (Vi.zs 64)) (Vi.zl 64) ((Qa M).at 2 _ rfl).range ?_;refine Stp.go ?_))
 constructor
 go_wp2_with (first |(refine Qh Vi.Zc rfl (.tmp 2) (.tmp 9) rfl rfl b2 1 (u8s (Vi.zs 64)) rfl rfl (Vi.zl 64) (QU _) (Qa M) rfl (Vi.zl 64) ?_;intro W4 N4;replace M:Hid (Mm [] w W4 [(b1,29,Vi.vwC v),(b2,59,u8s (Vi.zs 64)),(b3,59,u8s (Vi.zs 64))]):=hide N4;clear N4;refine Stp.go ?_))
 constructor
 go_wp2_with fail
 refine bodyPost_ret (res113 _ b2 (u8s (Vi.zs 64)) _ rfl (Vi.zl 64) ((Qa M).at 1 _ rfl)) rfl ?_;exact⟨rfl,(Qa M).kept⟩
theorem rput_true (v:Vi.Vw) (w:World) (hok:v.Ok) (hm:v.may=true) (hq:v.nu≠0) (hop:v.op=true):Calls Tryz.prog 113 #[Qd (Vi.vwC v)] w fun e w'=>e= .returned (Qd (u8s (Vi.QR 1 (v.fd%256) ((Vi.QN 0 v.ms:Nat):Int) v.nu v.ms 20)))∧Kept [] w w':=by
 have HNU:Hid (0≤v.nu∧v.nu≤9223372036854775807):=by have:=Vi.may_nu hm;constructor <;> omega
 have HEP:=hide (fun(m:Bool×Int) (hm9:m∈v.ms)=>may_ep hm hq hm9);have HLEN:=hide hok.len;have hd0:decide (v.nu=0)=false:=by simp [hq]
 have HL20:Hid ((u8s (Vi.QR 1 (v.fd%256) ((Vi.QN 0 v.ms:Nat):Int) v.nu v.ms 20)).length=64):=by show _=_;rw [Qy,Vi.Zj,hok.len]
 have HS0:Hid ([193,1,v.fd%256,0]++Vi.be 8 v.nu++Vi.zs 52=Vi.QR 1 (v.fd%256) ((Vi.QN 0 (v.ms.take 0):Nat):Int) v.nu (v.ms.take 0) (52-4*0)):=by show _=_;unfold Vi.QR;simp [Vi.QN,Vi.epB]
 obtain⟨R,hR⟩:∃R,R=Vi.QR 1 (v.fd%256) ((Vi.QN 0 v.ms:Nat):Int) v.nu v.ms 20:=⟨_,rfl⟩;have HR:=hide hR;rw [← hR] at HL20⊢;clear hR hm hok;go_enter Tryz.func113,Tryz.ntmps113
 have M:Hid (Mm [] w w []):=hide Mm.init;go_wp2_with (first |(refine Qp rfl (.tmp 0) rfl (Vi.vwC v) rfl ?_;intro W1 b1 e1 B1 K1;replace M:=hide ((Qa M).new e1 B1 K1);clear e1 B1 K1;refine Stp.go ?_))
 constructor
 go_wp2_with (first |(refine Qv (u8s (Vi.zs 64)) Vi.ZI 2 rfl rfl rfl ?_;intro W2 b2 e2 B2 K2;replace M:=hide ((Qa M).new e2 B2 K2);clear e2 B2 K2;refine Stp.go ?_))
 constructor
 go_wp2_with (first |(refine Qv (u8s (Vi.zs 64)) Vi.ZI 3 rfl rfl rfl ?_;intro W3 b3 e3 B3 K3;replace M:=hide ((Qa M).new e3 B3 K3);clear e3 B3 K3;have c0:=Qb ((Qa M).at 0 _ rfl) 0 (.int .i64 v.nu) rfl;refine Stp.go ?_))
 constructor
 go_wp2_with (first |(refine Qo Le.size5 rfl (.tmp 10) (.const (.int .u8 193)) rfl rfl b3 0 2 (.int .u8 193) ⟨rfl,rfl⟩ rfl rfl (Qa M) rfl (by simp [u8s,Vi.zs]) ?_;intro W4 N4;replace M:Hid (Mm [] w W4 [(b1,29,Vi.vwC v),(b2,59,u8s (Vi.zs 64)),(b3,59,u8s ([193,0,0,0]++Vi.zs 60))]):=hide N4;clear N4;have c1:W4.cell? ⟨b1,1,none⟩=some (.bool true):=(by rw [← hop];exact Qb ((Qa M).at 0 _ rfl) 1 _ rfl);refine Stp.go ?_))
 constructor
 go_wp2_with (first |(refine Qo Le.size5 rfl (.tmp 13) (.const (.int .u8 1)) rfl rfl b3 1 2 (.int .u8 1) ⟨rfl,rfl⟩ rfl rfl (Qa M) rfl (by simp [u8s,Vi.zs]) ?_;intro W5 N5;replace M:Hid (Mm [] w W5 [(b1,29,Vi.vwC v),(b2,59,u8s (Vi.zs 64)),(b3,59,u8s ([193,1,0,0]++Vi.zs 60))]):=hide N5;clear N5;have c2:=Qb ((Qa M).at 0 _ rfl) 2 (.int .i64 v.fd) rfl;refine Stp.go ?_))
 constructor
 go_wp2_with (first |(refine Qo Le.size5 rfl (.tmp 17) (.tmp 16) rfl rfl b3 2 2 (.int .u8 (v.fd%256)) ⟨rfl,rfl⟩ rfl rfl (Qa M) rfl (by simp [u8s,Vi.zs]) ?_;intro W6 N6;replace M:Hid (Mm [] w W6 [(b1,29,Vi.vwC v),(b2,59,u8s (Vi.zs 64)),(b3,59,u8s ([193,1,v.fd%256,0]++Vi.zs 60))]):=hide N6;clear N6;have c3:=Qb ((Qa M).at 0 _ rfl) 0 (.int .i64 v.nu) rfl;refine Stp.go ?_))
 constructor
 go_wp2_with (first |(go_at_call 145;refine(lay145 b3 8 4 v.nu [193,1,v.fd%256,0] (Vi.zs 8) (Vi.zs 52) _ (by have h9:=(Qa M).at 2 _ rfl;rw [show Vi.zs 60=Vi.zs 8++Vi.zs 52 from rfl,← List.append_assoc] at h9;exact h9) rfl rfl (by simp [Vi.zs]) (Qa HNU)).mono ?_;rintro e W7 ⟨rfl,B7,K7⟩;replace M:Hid (Mm [] w W7 [(b1,29,Vi.vwC v),(b2,59,u8s (Vi.zs 64)),(b3,59,u8s (Vi.QR 1 (v.fd%256) ((Vi.QN 0 (v.ms.take 0):Nat):Int) v.nu (v.ms.take 0) (52-4*0)))]):=(by have h9:=(Qa M).mut 2 rfl K7 B7;rw [Qa HS0] at h9;exact h9);clear K7 B7;refine Stp.go ?_))
 constructor
 go_wp2_with fail
 clear c0 c1 c2 c3;go_loopw [4,5] (fun xb xn wr=>∃j:Nat,j≤8∧xb= .int .i64 ((2^j:Nat):Int)∧xn= .int .i64 j∧Hid (Mm [] w wr [(b1,29,Vi.vwC v),(b2,59,u8s (Vi.zs 64)),(b3,59,u8s (Vi.QR 1 (v.fd%256) ((Vi.QN 0 (v.ms.take j):Nat):Int) v.nu (v.ms.take j) (52-4*j)))])) (fun _ i _=>(8-intOf i).toNat)
 case atStart=>exact ⟨0,by omega,rfl,rfl,M⟩
 case round=>
  clear M;obtain⟨j,hj,rfl,rfl,M⟩:=hrel;by_cases hlt:j<8
  · have hd:decide ((j:Int)<8)=true:=by simp;omega
    have hj8:(j:Int)<8:=by omega
    obtain⟨m,hm2⟩:∃m,v.ms[j]?=some m:=⟨_,List.getElem?_eq_getElem (by rw [Qa HLEN];omega)⟩;have HME:Hid (0≤m.2∧m.2≤9223372036854775807):=by have h9:=Qa HEP m (List.mem_of_getElem? hm2);show _∧_;omega
    have HBT:=hide (Vi.bitF_take v.ms 0 j m hm2);have HTK:Hid (v.ms.take (j+1)=v.ms.take j++ [m]):=by
     obtain⟨h1,h2⟩:=List.getElem?_eq_some_iff.1 hm2;show _=_;rw [← h2];exact(List.take_append_getElem h1).symm
    have HLJ:Hid ((v.ms.take j).length=j):=by show _=_;rw [List.length_take,Qa HLEN];omega
    have HBL:Hid (Vi.QN 0 (v.ms.take j)<2^j):=by
     have h9:=Vi.bitF_lt (v.ms.take j) 0;rw [Qa HLJ] at h9;show _<_;simp at h9;omega
    obtain⟨x0,x1⟩:=Vi.vwC_at hm2;rw [Nat.mul_comm] at x0 x1;have hc0:=Qb ((Qa M).at 0 _ rfl) _ _ x0;clear x0 hm2;have h2j:2^j≤128:=by have:2^j≤2^7:=Nat.pow_le_pow_right (by omega) (by omega);omega
    obtain⟨p,hp⟩:∃p,p=2^j:=⟨_,rfl⟩;have HPP:Hid (2^(j+1)=2*p):=by show _=_;rw [hp,Nat.pow_succ];omega
    rw [← hp] at HBL h2j⊢;have HPJ:=hide hp;obtain⟨mi,me⟩:=m;have HZ:Hid (Vi.zs (52-4*j)=Vi.zs 4++Vi.zs (48-4*j)):=by show _=_;unfold Vi.zs;rw [List.replicate_append_replicate];congr 1;omega
    obtain⟨A,hA⟩:∃A,A=Vi.QN 0 (v.ms.take j):=⟨_,rfl⟩;rw [← hA] at HBL M HBT;have hAp:A<p:=Qa HBL;have hpI:(p:Int)≤128:=by omega
    have hAI:(A:Int)<(p:Int):=by omega
    have HCUT:∀A:Int,Hid (Vi.QR 1 (v.fd%256) A v.nu (v.ms.take j) (52-4*j)=([193,1,(v.fd%256),A]++Vi.be 8 v.nu++Vi.epB (v.ms.take j))++Vi.zs 4++Vi.zs (48-4*j)):=by intro A;show _=_;unfold Vi.QR;rw [Qa HZ];simp
    have HLP:∀A:Int,Hid (([193,1,(v.fd%256),A]++Vi.be 8 v.nu++Vi.epB (v.ms.take j)).length=12+4*j):=by intro A;show _=_;simp [Vi.ZV,Vi.epB_len,Qa HLJ];omega
    clear HZ hA hp hAp h2j;cases mi with
    | true=>
     have HB1:Hid ((Vi.QN 0 (v.ms.take (j+1)):Nat)=A+p):=by have h9:=Qa HBT;simp at h9;show _=_;rw [h9,Qa HPJ]
     have c9:wr.cell? ⟨b3,3,none⟩=some (.int .u8 (A:Int)):=Qb ((Qa M).at 2 _ rfl) 3 _ rfl;go_wp2_with (first |(refine wpStoreMT Le.size5 rfl (.tmp 35) (.tmp 34) rfl rfl b3 3 2 (.int .u8 ((A+p:Nat):Int)) ⟨rfl,rfl⟩ rfl (by first | rfl |(show Value.int _ _=_;congr 1;omega)) (Qa M) (u8s (Vi.QR 1 (v.fd%256) ((A+p:Nat):Int) v.nu (v.ms.take j) (52-4*j))) rfl rfl (by rw [Qy,Vi.Zj];omega) ?_;intro W61 N61;replace M:Hid (Mm [] w W61 [(b1,29,Vi.vwC v),(b2,59,u8s (Vi.zs 64)),(b3,59,u8s (Vi.QR 1 (v.fd%256) ((A+p:Nat):Int) v.nu (v.ms.take j) (52-4*j)))]):=hide N61;clear N61 c9 hc0;have hc1:=Qb ((Qa M).at 0 _ rfl) _ _ x1;refine Stp.go ?_))
     constructor
     obtain⟨A2,hA2⟩:∃A2,A2=A+p:=⟨_,rfl⟩;rw [← hA2] at M HB1;go_wp2_with (first |(go_at_call 145;refine(lay145 b3 4 (12+4*j) me ([193,1,(v.fd%256),(A2:Int)]++Vi.be 8 v.nu++Vi.epB (v.ms.take j)) (Vi.zs 4) (Vi.zs (48-4*j)) _ (by rw [← Qa (HCUT (A2:Int))];exact(Qa M).at 2 _ rfl) (Qa (HLP (A2:Int))) rfl (by rw [← Qa (HCUT (A2:Int)),Vi.Zj,Qa HLJ];omega) (Qa HME)).mono ?_;rintro e W71 ⟨rfl,B71,K71⟩;replace M:Hid (Mm [] w W71 [(b1,29,Vi.vwC v),(b2,59,u8s (Vi.zs 64)),(b3,59,u8s (([193,1,(v.fd%256),(A2:Int)]++Vi.be 8 v.nu++Vi.epB (v.ms.take j))++Vi.be 4 me++Vi.zs (48-4*j)))]):=(Qa M).mut 2 rfl K71 B71;clear B71 K71 hc1;refine Stp.go ?_))
     constructor
     go_wp2_with fail
     go_roundw
     case rel=>exact ⟨j+1,by omega,by rw [Qa HPP];first | rfl | go_num,by first | rfl | go_num,by rw [Qa HB1,Qa HTK];have h9:=Qa M;rw [Vi.secL_next _ _ _ _ _ _ true j hlt] at h9;exact h9⟩
     case measure=>simp [intOf];omega
    | false=>
     have HB1:Hid ((Vi.QN 0 (v.ms.take (j+1)):Nat)=A):=by have h9:=Qa HBT;simp at h9;exact h9
     have hc1:=Qb ((Qa M).at 0 _ rfl) _ _ x1;obtain⟨A2,hA2⟩:∃A2,A2=A:=⟨_,rfl⟩;rw [← hA2] at M HB1;go_wp2_with (first |(go_at_call 145;refine(lay145 b3 4 (12+4*j) me ([193,1,(v.fd%256),(A2:Int)]++Vi.be 8 v.nu++Vi.epB (v.ms.take j)) (Vi.zs 4) (Vi.zs (48-4*j)) _ (by rw [← Qa (HCUT (A2:Int))];exact(Qa M).at 2 _ rfl) (Qa (HLP (A2:Int))) rfl (by rw [← Qa (HCUT (A2:Int)),Vi.Zj,Qa HLJ];omega) (Qa HME)).mono ?_;rintro e W71 ⟨rfl,B71,K71⟩;replace M:Hid (Mm [] w W71 [(b1,29,Vi.vwC v),(b2,59,u8s (Vi.zs 64)),(b3,59,u8s (([193,1,(v.fd%256),(A2:Int)]++Vi.be 8 v.nu++Vi.epB (v.ms.take j))++Vi.be 4 me++Vi.zs (48-4*j)))]):=(Qa M).mut 2 rfl K71 B71;clear B71 K71 hc1;refine Stp.go ?_))
     constructor
     go_wp2_with fail
     go_roundw
     case rel=>exact ⟨j+1,by omega,by rw [Qa HPP];first | rfl | go_num,by first | rfl | go_num,by rw [Qa HB1,Qa HTK];have h9:=Qa M;rw [Vi.secL_next _ _ _ _ _ _ false j hlt] at h9;exact h9⟩
     case measure=>simp [intOf];omega
  · obtain rfl:j=8:=by omega
    have hT:v.ms.take 8=v.ms:=List.take_of_length_le (by rw [Qa HLEN];exact Nat.le_refl _);have h9:=Qa M;rw [hT,← show R=Vi.QR 1 (v.fd%256) ((Vi.QN 0 v.ms:Nat):Int) v.nu v.ms (52-4*8) from Qa HR] at h9;replace M:=hide h9;clear h9 hT;go_wp2_with (first |(refine Qg Vi.Zc rfl (.tmp 3) rfl b3 0 rfl (u8s R) (Qa HL20) ((Qa M).at 2 _ rfl).range ?_;refine Stp.go ?_))
    constructor
    go_wp2_with (first |(refine Qh Vi.Zc rfl (.tmp 2) (.tmp 47) rfl rfl b2 1 (u8s R) rfl rfl (Qa HL20) (QU _) (Qa M) rfl (Vi.zl 64) ?_;intro W91 N91;replace M:Hid (Mm [] w W91 [(b1,29,Vi.vwC v),(b2,59,u8s R),(b3,59,u8s R)]):=hide N91;clear N91;refine Stp.go ?_))
    constructor
    go_wp2_with fail
    refine bodyPost_ret (res113 _ b2 (u8s R) _ rfl (Qa HL20) ((Qa M).at 1 _ rfl)) rfl ?_;exact⟨rfl,(Qa M).kept⟩
theorem rput_false (v:Vi.Vw) (w:World) (hok:v.Ok) (hm:v.may=true) (hq:v.nu≠0) (hop:v.op=false):Calls Tryz.prog 113 #[Qd (Vi.vwC v)] w fun e w'=>e= .returned (Qd (u8s (Vi.QR 0 (v.fd%256) ((Vi.QN 0 v.ms:Nat):Int) v.nu v.ms 20)))∧Kept [] w w':=by
 have HNU:Hid (0≤v.nu∧v.nu≤9223372036854775807):=by have:=Vi.may_nu hm;constructor <;> omega
 have HEP:=hide (fun(m:Bool×Int) (hm9:m∈v.ms)=>may_ep hm hq hm9);have HLEN:=hide hok.len;have hd0:decide (v.nu=0)=false:=by simp [hq]
 have HL20:Hid ((u8s (Vi.QR 0 (v.fd%256) ((Vi.QN 0 v.ms:Nat):Int) v.nu v.ms 20)).length=64):=by show _=_;rw [Qy,Vi.Zj,hok.len]
 have HS0:Hid ([193,0,v.fd%256,0]++Vi.be 8 v.nu++Vi.zs 52=Vi.QR 0 (v.fd%256) ((Vi.QN 0 (v.ms.take 0):Nat):Int) v.nu (v.ms.take 0) (52-4*0)):=by show _=_;unfold Vi.QR;simp [Vi.QN,Vi.epB]
 obtain⟨R,hR⟩:∃R,R=Vi.QR 0 (v.fd%256) ((Vi.QN 0 v.ms:Nat):Int) v.nu v.ms 20:=⟨_,rfl⟩;have HR:=hide hR;rw [← hR] at HL20⊢;clear hR hm hok;go_enter Tryz.func113,Tryz.ntmps113
 have M:Hid (Mm [] w w []):=hide Mm.init;go_wp2_with (first |(refine Qp rfl (.tmp 0) rfl (Vi.vwC v) rfl ?_;intro W1 b1 e1 B1 K1;replace M:=hide ((Qa M).new e1 B1 K1);clear e1 B1 K1;refine Stp.go ?_))
 constructor
 go_wp2_with (first |(refine Qv (u8s (Vi.zs 64)) Vi.ZI 2 rfl rfl rfl ?_;intro W2 b2 e2 B2 K2;replace M:=hide ((Qa M).new e2 B2 K2);clear e2 B2 K2;refine Stp.go ?_))
 constructor
 go_wp2_with (first |(refine Qv (u8s (Vi.zs 64)) Vi.ZI 3 rfl rfl rfl ?_;intro W3 b3 e3 B3 K3;replace M:=hide ((Qa M).new e3 B3 K3);clear e3 B3 K3;have c0:=Qb ((Qa M).at 0 _ rfl) 0 (.int .i64 v.nu) rfl;refine Stp.go ?_))
 constructor
 go_wp2_with (first |(refine Qo Le.size5 rfl (.tmp 10) (.const (.int .u8 193)) rfl rfl b3 0 2 (.int .u8 193) ⟨rfl,rfl⟩ rfl rfl (Qa M) rfl (by simp [u8s,Vi.zs]) ?_;intro W4 N4;replace M:Hid (Mm [] w W4 [(b1,29,Vi.vwC v),(b2,59,u8s (Vi.zs 64)),(b3,59,u8s ([193,0,0,0]++Vi.zs 60))]):=hide N4;clear N4;have c1:W4.cell? ⟨b1,1,none⟩=some (.bool false):=(by rw [← hop];exact Qb ((Qa M).at 0 _ rfl) 1 _ rfl);have c2:=Qb ((Qa M).at 0 _ rfl) 2 (.int .i64 v.fd) rfl;refine Stp.go ?_))
 constructor
 go_wp2_with (first |(refine Qo Le.size5 rfl (.tmp 17) (.tmp 16) rfl rfl b3 2 2 (.int .u8 (v.fd%256)) ⟨rfl,rfl⟩ rfl rfl (Qa M) rfl (by simp [u8s,Vi.zs]) ?_;intro W5 N5;replace M:Hid (Mm [] w W5 [(b1,29,Vi.vwC v),(b2,59,u8s (Vi.zs 64)),(b3,59,u8s ([193,0,v.fd%256,0]++Vi.zs 60))]):=hide N5;clear N5;have c3:=Qb ((Qa M).at 0 _ rfl) 0 (.int .i64 v.nu) rfl;refine Stp.go ?_))
 constructor
 go_wp2_with (first |(go_at_call 145;refine(lay145 b3 8 4 v.nu [193,0,v.fd%256,0] (Vi.zs 8) (Vi.zs 52) _ (by have h9:=(Qa M).at 2 _ rfl;rw [show Vi.zs 60=Vi.zs 8++Vi.zs 52 from rfl,← List.append_assoc] at h9;exact h9) rfl rfl (by simp [Vi.zs]) (Qa HNU)).mono ?_;rintro e W6 ⟨rfl,B6,K6⟩;replace M:Hid (Mm [] w W6 [(b1,29,Vi.vwC v),(b2,59,u8s (Vi.zs 64)),(b3,59,u8s (Vi.QR 0 (v.fd%256) ((Vi.QN 0 (v.ms.take 0):Nat):Int) v.nu (v.ms.take 0) (52-4*0)))]):=(by have h9:=(Qa M).mut 2 rfl K6 B6;rw [Qa HS0] at h9;exact h9);clear K6 B6;refine Stp.go ?_))
 constructor
 go_wp2_with fail
 clear c0 c1 c2 c3;go_loopw [4,5] (fun xb xn wr=>∃j:Nat,j≤8∧xb= .int .i64 ((2^j:Nat):Int)∧xn= .int .i64 j∧Hid (Mm [] w wr [(b1,29,Vi.vwC v),(b2,59,u8s (Vi.zs 64)),(b3,59,u8s (Vi.QR 0 (v.fd%256) ((Vi.QN 0 (v.ms.take j):Nat):Int) v.nu (v.ms.take j) (52-4*j)))])) (fun _ i _=>(8-intOf i).toNat)
 case atStart=>exact ⟨0,by omega,rfl,rfl,M⟩
 case round=>
  clear M;obtain⟨j,hj,rfl,rfl,M⟩:=hrel;by_cases hlt:j<8
  · have hd:decide ((j:Int)<8)=true:=by simp;omega
    have hj8:(j:Int)<8:=by omega
    obtain⟨m,hm2⟩:∃m,v.ms[j]?=some m:=⟨_,List.getElem?_eq_getElem (by rw [Qa HLEN];omega)⟩;have HME:Hid (0≤m.2∧m.2≤9223372036854775807):=by have h9:=Qa HEP m (List.mem_of_getElem? hm2);show _∧_;omega
    have HBT:=hide (Vi.bitF_take v.ms 0 j m hm2);have HTK:Hid (v.ms.take (j+1)=v.ms.take j++ [m]):=by
     obtain⟨h1,h2⟩:=List.getElem?_eq_some_iff.1 hm2;show _=_;rw [← h2];exact(List.take_append_getElem h1).symm
    have HLJ:Hid ((v.ms.take j).length=j):=by show _=_;rw [List.length_take,Qa HLEN];omega
    have HBL:Hid (Vi.QN 0 (v.ms.take j)<2^j):=by
     have h9:=Vi.bitF_lt (v.ms.take j) 0;rw [Qa HLJ] at h9;show _<_;simp at h9;omega
    obtain⟨x0,x1⟩:=Vi.vwC_at hm2;rw [Nat.mul_comm] at x0 x1;have hc0:=Qb ((Qa M).at 0 _ rfl) _ _ x0;clear x0 hm2;have h2j:2^j≤128:=by have:2^j≤2^7:=Nat.pow_le_pow_right (by omega) (by omega);omega
    obtain⟨p,hp⟩:∃p,p=2^j:=⟨_,rfl⟩;have HPP:Hid (2^(j+1)=2*p):=by show _=_;rw [hp,Nat.pow_succ];omega
    rw [← hp] at HBL h2j⊢;have HPJ:=hide hp;obtain⟨mi,me⟩:=m;have HZ:Hid (Vi.zs (52-4*j)=Vi.zs 4++Vi.zs (48-4*j)):=by show _=_;unfold Vi.zs;rw [List.replicate_append_replicate];congr 1;omega
    obtain⟨A,hA⟩:∃A,A=Vi.QN 0 (v.ms.take j):=⟨_,rfl⟩;rw [← hA] at HBL M HBT;have hAp:A<p:=Qa HBL;have hpI:(p:Int)≤128:=by omega
    have hAI:(A:Int)<(p:Int):=by omega
    have HCUT:∀A:Int,Hid (Vi.QR 0 (v.fd%256) A v.nu (v.ms.take j) (52-4*j)=([193,0,(v.fd%256),A]++Vi.be 8 v.nu++Vi.epB (v.ms.take j))++Vi.zs 4++Vi.zs (48-4*j)):=by intro A;show _=_;unfold Vi.QR;rw [Qa HZ];simp
    have HLP:∀A:Int,Hid (([193,0,(v.fd%256),A]++Vi.be 8 v.nu++Vi.epB (v.ms.take j)).length=12+4*j):=by intro A;show _=_;simp [Vi.ZV,Vi.epB_len,Qa HLJ];omega
    clear HZ hA hp hAp h2j;cases mi with
    | true=>
     have HB1:Hid ((Vi.QN 0 (v.ms.take (j+1)):Nat)=A+p):=by have h9:=Qa HBT;simp at h9;show _=_;rw [h9,Qa HPJ]
     have c9:wr.cell? ⟨b3,3,none⟩=some (.int .u8 (A:Int)):=Qb ((Qa M).at 2 _ rfl) 3 _ rfl;go_wp2_with (first |(refine wpStoreMT Le.size5 rfl (.tmp 35) (.tmp 34) rfl rfl b3 3 2 (.int .u8 ((A+p:Nat):Int)) ⟨rfl,rfl⟩ rfl (by first | rfl |(show Value.int _ _=_;congr 1;omega)) (Qa M) (u8s (Vi.QR 0 (v.fd%256) ((A+p:Nat):Int) v.nu (v.ms.take j) (52-4*j))) rfl rfl (by rw [Qy,Vi.Zj];omega) ?_;intro W61 N61;replace M:Hid (Mm [] w W61 [(b1,29,Vi.vwC v),(b2,59,u8s (Vi.zs 64)),(b3,59,u8s (Vi.QR 0 (v.fd%256) ((A+p:Nat):Int) v.nu (v.ms.take j) (52-4*j)))]):=hide N61;clear N61 c9 hc0;have hc1:=Qb ((Qa M).at 0 _ rfl) _ _ x1;refine Stp.go ?_))
     constructor
     obtain⟨A2,hA2⟩:∃A2,A2=A+p:=⟨_,rfl⟩;rw [← hA2] at M HB1;go_wp2_with (first |(go_at_call 145;refine(lay145 b3 4 (12+4*j) me ([193,0,(v.fd%256),(A2:Int)]++Vi.be 8 v.nu++Vi.epB (v.ms.take j)) (Vi.zs 4) (Vi.zs (48-4*j)) _ (by rw [← Qa (HCUT (A2:Int))];exact(Qa M).at 2 _ rfl) (Qa (HLP (A2:Int))) rfl (by rw [← Qa (HCUT (A2:Int)),Vi.Zj,Qa HLJ];omega) (Qa HME)).mono ?_;rintro e W71 ⟨rfl,B71,K71⟩;replace M:Hid (Mm [] w W71 [(b1,29,Vi.vwC v),(b2,59,u8s (Vi.zs 64)),(b3,59,u8s (([193,0,(v.fd%256),(A2:Int)]++Vi.be 8 v.nu++Vi.epB (v.ms.take j))++Vi.be 4 me++Vi.zs (48-4*j)))]):=(Qa M).mut 2 rfl K71 B71;clear B71 K71 hc1;refine Stp.go ?_))
     constructor
     go_wp2_with fail
     go_roundw
     case rel=>exact ⟨j+1,by omega,by rw [Qa HPP];first | rfl | go_num,by first | rfl | go_num,by rw [Qa HB1,Qa HTK];have h9:=Qa M;rw [Vi.secL_next _ _ _ _ _ _ true j hlt] at h9;exact h9⟩
     case measure=>simp [intOf];omega
    | false=>
     have HB1:Hid ((Vi.QN 0 (v.ms.take (j+1)):Nat)=A):=by have h9:=Qa HBT;simp at h9;exact h9
     have hc1:=Qb ((Qa M).at 0 _ rfl) _ _ x1;obtain⟨A2,hA2⟩:∃A2,A2=A:=⟨_,rfl⟩;rw [← hA2] at M HB1;go_wp2_with (first |(go_at_call 145;refine(lay145 b3 4 (12+4*j) me ([193,0,(v.fd%256),(A2:Int)]++Vi.be 8 v.nu++Vi.epB (v.ms.take j)) (Vi.zs 4) (Vi.zs (48-4*j)) _ (by rw [← Qa (HCUT (A2:Int))];exact(Qa M).at 2 _ rfl) (Qa (HLP (A2:Int))) rfl (by rw [← Qa (HCUT (A2:Int)),Vi.Zj,Qa HLJ];omega) (Qa HME)).mono ?_;rintro e W71 ⟨rfl,B71,K71⟩;replace M:Hid (Mm [] w W71 [(b1,29,Vi.vwC v),(b2,59,u8s (Vi.zs 64)),(b3,59,u8s (([193,0,(v.fd%256),(A2:Int)]++Vi.be 8 v.nu++Vi.epB (v.ms.take j))++Vi.be 4 me++Vi.zs (48-4*j)))]):=(Qa M).mut 2 rfl K71 B71;clear B71 K71 hc1;refine Stp.go ?_))
     constructor
     go_wp2_with fail
     go_roundw
     case rel=>exact ⟨j+1,by omega,by rw [Qa HPP];first | rfl | go_num,by first | rfl | go_num,by rw [Qa HB1,Qa HTK];have h9:=Qa M;rw [Vi.secL_next _ _ _ _ _ _ false j hlt] at h9;exact h9⟩
     case measure=>simp [intOf];omega
  · obtain rfl:j=8:=by omega
    have hT:v.ms.take 8=v.ms:=List.take_of_length_le (by rw [Qa HLEN];exact Nat.le_refl _);have h9:=Qa M;rw [hT,← show R=Vi.QR 0 (v.fd%256) ((Vi.QN 0 v.ms:Nat):Int) v.nu v.ms (52-4*8) from Qa HR] at h9;replace M:=hide h9;clear h9 hT;go_wp2_with (first |(refine Qg Vi.Zc rfl (.tmp 3) rfl b3 0 rfl (u8s R) (Qa HL20) ((Qa M).at 2 _ rfl).range ?_;refine Stp.go ?_))
    constructor
    go_wp2_with (first |(refine Qh Vi.Zc rfl (.tmp 2) (.tmp 47) rfl rfl b2 1 (u8s R) rfl rfl (Qa HL20) (QU _) (Qa M) rfl (Vi.zl 64) ?_;intro W91 N91;replace M:Hid (Mm [] w W91 [(b1,29,Vi.vwC v),(b2,59,u8s R),(b3,59,u8s R)]):=hide N91;clear N91;refine Stp.go ?_))
    constructor
    go_wp2_with fail
    refine bodyPost_ret (res113 _ b2 (u8s R) _ rfl (Qa HL20) ((Qa M).at 1 _ rfl)) rfl ?_;exact⟨rfl,(Qa M).kept⟩
theorem rput113 (v:Vi.Vw) (w:World) (hok:v.Ok) (hm:v.may=true):Calls Tryz.prog 113 #[Qd (Vi.vwC v)] w fun e w'=>e= .returned (Qd (u8s (Vi.Zr v).1))∧Kept [] w w':=by
 unfold Vi.Zr;rw [if_neg (by rw [hm];simp)];by_cases hq:v.nu=0
 · have hf:v=Vi.fv:=by have h9:=hm;unfold Vi.Vw.may at h9;rw [if_pos hq] at h9;exact of_decide_eq_true h9
   rw [if_pos hf];exact rput_z v w hq
 · rw [if_neg (fun h=>hq (by rw [h];rfl))];unfold Vi.secV;cases hop:v.op with
   | true=>exact rput_true v w hok hm hq hop
   | false=>exact rput_false v w hok hm hq hop
end Go.Proofs.YtcfflbafclmheaaGreatDoor
