/-
  Texts of the walks of member, shortened.
-/
import Derived.Test.YtcfflbafclmheaaGreatDoorDat
set_option maxRecDepth 100000
set_option maxHeartbeats 100000000
set_option linter.unusedSimpArgs false
namespace Go.Proofs.YtcfflbafclmheaaGreatDoor
open Go.RowKit
open Le (Mm Qh Qo)
theorem be_same:∀(k:Nat) (n:Int),Vi.be k n=Le.be k n
 | 0,_=>rfl
 | k+1,n=>by rw [Vi.be,Le.be,be_same k]
theorem ofB_same:∀(l:List Int) (n:Int),Vi.ofB n l=Le.ofB n l
 | [],_=>rfl
 | x::l,n=>by rw [Vi.ofB,Le.ofB,ofB_same l]
theorem res101 (w:World) (z:Nat) (vs:List Value) (tmps:Array Value) (h4:tmps[2]?.getD undef=P0 z) (hl:vs.length=64) (hb:Blk w z 59 vs):(results Tryz.f101 tmps).run Tryz.prog w= .ok (Qd vs) w:=by
 have:=Zq Vi.Zc hl hb;simp [results,Tryz.results101,h4,this,asAddr]
theorem build73z (w:World):(Instr.build 73 #[]).run Tryz.prog w= .ok (Qd (Le.Le.C Le.le0)) w:=by kernel_rfl
set_option linter.unusedVariables false in
theorem rpl_z_F:(∀(l:Le.Le) (w:World) (hq:l=Le.le0),Calls Tryz.prog 101 #[Qd (Le.Le.C l)] w fun e w'=>e= .returned (Qd (u8s (Vi.zs 64)))∧Kept [] w w')∧(∀(l:Le.Le) (w:World) (hm:l.may=true) (hq:l≠Le.le0),Calls Tryz.prog 101 #[Qd (Le.Le.C l)] w fun e w'=>e= .returned (Qd (u8s (Le.QR l)))∧Kept [] w w'):=by
 refine⟨fun l w hq=> ?_,fun l w hm hq=> ?_⟩;have HQ:=hide hq;clear hq
 rotate_left
 have hmm:=of_decide_eq_true hm;have HQ:=hide hq;clear hq;have HE:Hid (0≤l.ep∧l.ep≤9223372036854775807):=by constructor <;> omega
 have HB:Hid (0≤l.be∧l.be≤9223372036854775807):=by constructor <;> omega
 have HRE:Hid (0≤l.re∧l.re≤9223372036854775807):=by constructor <;> omega
 have L4:∀x,(Vi.be 4 x).length=4:=Vi.ZV 4;have L8:∀x,(Vi.be 8 x).length=8:=Vi.ZV 8;have HL8:Hid ((u8s (Le.QR l)).length=64):=by show _=_;rw [Qy,Le.Zj]
 have HRS:Hid ([209]++Vi.be 4 l.ep++Vi.be 8 l.be++Vi.be 8 l.re++Vi.zs 43=Le.QR l):=by show _=_;unfold Le.QR;rw [be_same,be_same,be_same];rfl
 have PL:=hide (fun(b o k:Nat) (x:Int) (pre post:List Int) (W:World)=>lay145 b k o x pre (Vi.zs k) post W);clear hm hmm
 rotate_left
 all_goals
   go_enter Tryz.func101,Tryz.ntmps101
   have M:Hid (Mm [] w w []):=hide Mm.init;go_wp2_with (first |(refine Qp rfl (.tmp 0) rfl (Le.Le.C l) rfl ?_;intro W1 b1 e1 B1 K1;replace M:=hide ((Qa M).new e1 B1 K1);clear e1 B1 K1;refine Stp.go ?_))
   constructor
   go_wp2_with (first |(refine Qv (u8s (Vi.zs 64)) Vi.ZI 2 rfl rfl rfl ?_;intro W2 b2 e2 B2 K2;replace M:=hide ((Qa M).new e2 B2 K2);clear e2 B2 K2;refine Stp.go ?_))
   constructor
   go_wp2_with (first |(refine Qv (u8s (Vi.zs 64)) Vi.ZI 3 rfl rfl rfl ?_;intro W3 b3 e3 B3 K3;replace M:=hide ((Qa M).new e3 B3 K3);clear e3 B3 K3;refine Stp.go ?_))
   constructor
   go_wp2_with (first |(refine Qg Le.QC rfl (.tmp 1) rfl b1 0 rfl (Le.Le.C l) rfl ((Qa M).at 0 _ rfl).range ?_;refine Stp.go ?_))
   constructor
   go_wp2_with (first |(refine QG (Le.Le.C Le.le0) build73z rfl rfl ?_;refine Stp.go ?_))
   constructor
 · go_wp2_with (first |(refine wpEqlA 73 73 Le.guard23 (.tmp 4) (.tmp 5) rfl rfl (Le.Le.C l) (Le.Le.C Le.le0) rfl rfl true ((Le.eqL23 _ l Le.le0).trans (by have h9:=Qa HQ;simp [h9])) ?_;refine Stp.go ?_))
   constructor
   go_wp2_with (first |(refine Qg Vi.Zc rfl (.tmp 3) rfl b3 0 rfl (u8s (Vi.zs 64)) (Vi.zl 64) ((Qa M).at 2 _ rfl).range ?_;refine Stp.go ?_))
   constructor
   go_wp2_with (first |(refine Qh Vi.Zc rfl (.tmp 2) (.tmp 7) rfl rfl b2 1 (u8s (Vi.zs 64)) rfl rfl (Vi.zl 64) (QU _) (Qa M) rfl (Vi.zl 64) ?_;intro W4 N4;replace M:Hid (Mm [] w W4 [(b1,73,Le.Le.C l),(b2,59,u8s (Vi.zs 64)),(b3,59,u8s (Vi.zs 64))]):=hide N4;clear N4;refine Stp.go ?_))
   constructor
   go_wp2_with fail
   refine bodyPost_ret (res101 _ b2 (u8s (Vi.zs 64)) _ rfl (Vi.zl 64) ((Qa M).at 1 _ rfl)) rfl ?_;exact⟨rfl,(Qa M).kept⟩
 go_wp2_with (first |(refine wpEqlA 73 73 Le.guard23 (.tmp 4) (.tmp 5) rfl rfl (Le.Le.C l) (Le.Le.C Le.le0) rfl rfl false ((Le.eqL23 _ l Le.le0).trans (by have h9:=Qa HQ;simp [h9])) ?_;refine Stp.go ?_))
 constructor
 go_wp2_with (first |(refine Qo Le.size5 rfl (.tmp 8) (.const (.int .u8 209)) rfl rfl b3 0 2 (.int .u8 209) ⟨rfl,rfl⟩ rfl rfl (Qa M) rfl (by simp [u8s,Vi.zs]) ?_;intro W4 N4;replace M:Hid (Mm [] w W4 [(b1,73,Le.Le.C l),(b2,59,u8s (Vi.zs 64)),(b3,59,u8s ([209]++Vi.zs 63))]):=hide N4;clear N4;have c0:=Qb ((Qa M).at 0 _ rfl) 0 (.int .i64 l.ep) rfl;refine Stp.go ?_))
 constructor
 go_wp2_with (first |(go_at_call 145;refine(lay145 b3 4 1 l.ep ([209]) (Vi.zs 4) (Vi.zs 59) _ (by have h9:=(Qa M).at 2 _ rfl;rw [show Vi.zs 63=Vi.zs 4++Vi.zs 59 from rfl,← List.append_assoc] at h9;exact h9) (by simp [L4,L8]) rfl (by simp [L4,L8,Vi.zs]) (Qa HE)).mono ?_;rintro e W5 ⟨rfl,B5,K5⟩;replace M:Hid (Mm [] w W5 [(b1,73,Le.Le.C l),(b2,59,u8s (Vi.zs 64)),(b3,59,u8s ([209]++Vi.be 4 l.ep++Vi.zs 59))]):=(Qa M).mut 2 rfl K5 B5;clear K5 B5;clear c0;have c1:=Qb ((Qa M).at 0 _ rfl) 1 (.int .i64 l.be) rfl;refine Stp.go ?_))
 constructor
 go_wp2_with (first |(go_at_call 145;refine(lay145 b3 8 5 l.be ([209]++Vi.be 4 l.ep) (Vi.zs 8) (Vi.zs 51) _ (by have h9:=(Qa M).at 2 _ rfl;rw [show Vi.zs 59=Vi.zs 8++Vi.zs 51 from rfl,← List.append_assoc] at h9;exact h9) (by simp [L4,L8]) rfl (by simp [L4,L8,Vi.zs]) (Qa HB)).mono ?_;rintro e W6 ⟨rfl,B6,K6⟩;replace M:Hid (Mm [] w W6 [(b1,73,Le.Le.C l),(b2,59,u8s (Vi.zs 64)),(b3,59,u8s ([209]++Vi.be 4 l.ep++Vi.be 8 l.be++Vi.zs 51))]):=(Qa M).mut 2 rfl K6 B6;clear K6 B6;clear c1;have c2:=Qb ((Qa M).at 0 _ rfl) 2 (.int .i64 l.re) rfl;refine Stp.go ?_))
 constructor
 go_wp2_with (first |(go_at_call 145;refine(lay145 b3 8 13 l.re ([209]++Vi.be 4 l.ep++Vi.be 8 l.be) (Vi.zs 8) (Vi.zs 43) _ (by have h9:=(Qa M).at 2 _ rfl;rw [show Vi.zs 51=Vi.zs 8++Vi.zs 43 from rfl,← List.append_assoc] at h9;exact h9) (by simp [L4,L8]) rfl (by simp [L4,L8,Vi.zs]) (Qa HRE)).mono ?_;rintro e W7 ⟨rfl,B7,K7⟩;replace M:Hid (Mm [] w W7 [(b1,73,Le.Le.C l),(b2,59,u8s (Vi.zs 64)),(b3,59,u8s ([209]++Vi.be 4 l.ep++Vi.be 8 l.be++Vi.be 8 l.re++Vi.zs 43))]):=(Qa M).mut 2 rfl K7 B7;clear K7 B7;clear c2;have h9:=Qa M;rw [Qa HRS] at h9;replace M:Hid (Mm [] w W7 [(b1,73,Le.Le.C l),(b2,59,u8s (Vi.zs 64)),(b3,59,u8s (Le.QR l))]):=h9;clear h9;refine Stp.go ?_))
 constructor
 go_wp2_with (first |(refine Qg Vi.Zc rfl (.tmp 3) rfl b3 0 rfl (u8s (Le.QR l)) (Qa HL8) ((Qa M).at 2 _ rfl).range ?_;refine Stp.go ?_))
 constructor
 go_wp2_with (first |(refine Qh Vi.Zc rfl (.tmp 2) (.tmp 18) rfl rfl b2 1 (u8s (Le.QR l)) rfl rfl (Qa HL8) (QU _) (Qa M) rfl (Vi.zl 64) ?_;intro W8 N8;replace M:Hid (Mm [] w W8 [(b1,73,Le.Le.C l),(b2,59,u8s (Le.QR l)),(b3,59,u8s (Le.QR l))]):=hide N8;clear N8;refine Stp.go ?_))
 constructor
 go_wp2_with fail
 refine bodyPost_ret (res101 _ b2 (u8s (Le.QR l)) _ rfl (Qa HL8) ((Qa M).at 1 _ rfl)) rfl ?_;exact⟨rfl,(Qa M).kept⟩
theorem rput101 (l:Le.Le) (w:World) (hm:l.may=true):Calls Tryz.prog 101 #[Qd (Le.Le.C l)] w fun e w'=>e= .returned (Qd (u8s (Le.putL l).1))∧Kept [] w w':=by
 unfold Le.putL;rw [if_neg (by rw [hm];simp)];by_cases hq:l=Le.le0
 · rw [if_pos hq];exact rpl_z_F.1 l w hq
 · rw [if_neg hq];exact rpl_z_F.2 l w hm hq
open Go.RowKit
namespace Le
theorem SV.step {V W W':World} {v:Le} {d:Nat→Bool} {vs:Nat→Value} (h:SV V v d vs W) (hk:Kept [] W W'):SV V v d vs W':=
 ⟨h.1.trans hk,fun h7=>by
  obtain⟨p,h1,h2,h3,h4⟩:=h.2 h7;exact⟨p,h1,h2,fun h8=>(h3 h8).kept hk (by simp),fun h8=>(h4 h8).kept hk (by simp)⟩⟩
theorem cg112 (vs:Array Value) (w:World):(callFunc 112 vs).run Tryz.prog w= .ok (.enter 112 vs) w:=by kernel_rfl
theorem cg99 (vs:Array Value) (w:World):(callFunc 99 vs).run Tryz.prog w= .ok (.enter 99 vs) w:=by kernel_rfl
theorem cg101 (vs:Array Value) (w:World):(callFunc 101 vs).run Tryz.prog w= .ok (.enter 101 vs) w:=by kernel_rfl
theorem res102 (w:World) (z:Nat) (vs:List Value) (e:Bool) (tmps:Array Value) (h4:tmps[2]?.getD undef=P0 z) (h5:tmps[3]?.getD undef= .bool e) (hl:vs.length=3) (hb:Blk w z 73 vs):(results Tryz.f102 tmps).run Tryz.prog w= .ok (.tuple #[Qd vs,.bool e]) w:=by
 have:=Zq QC hl hb;simp [results,Tryz.results102,h4,h5,this,asAddr]
theorem u8_at {s:List Int} (hs:s.length=64) (i:Nat) (h:i<64):(u8s s)[i]?=some (.int .u8 (s.getD i 0)):=by
 unfold u8s;rw [List.getElem?_map,List.getD_eq_getElem?_getD,List.getElem?_eq_getElem (by omega)];rfl
set_option linter.unusedVariables false in
theorem rget_a_F:(∀(s:List Int) (w:World) (_hs:Byts 64 s) (x5 x13:Int) (H5:Hid ((u8s s)[5]?=some (.int .u8 x5))) (H13:Hid ((u8s s)[13]?=some (.int .u8 x13))) (hx5:decide (64<x5)=true),Calls Tryz.prog 102 #[Qd (u8s s)] w fun x w'=>x= .returned (.tuple #[Qd le0.C,.bool false])∧Kept [] w w')∧(∀(s:List Int) (w:World) (_hs:Byts 64 s) (x5 x13:Int) (H5:Hid ((u8s s)[5]?=some (.int .u8 x5))) (H13:Hid ((u8s s)[13]?=some (.int .u8 x13))) (hx5:decide (64<x5)=false) (hx13:decide (64<x13)=true),Calls Tryz.prog 102 #[Qd (u8s s)] w fun x w'=>x= .returned (.tuple #[Qd le0.C,.bool false])∧Kept [] w w')∧(∀(s:List Int) (w:World) (hs:Byts 64 s) (x5 x13:Int) (H5:Hid ((u8s s)[5]?=some (.int .u8 x5))) (H13:Hid ((u8s s)[13]?=some (.int .u8 x13))) (hx5:decide (64<x5)=false) (hx13:decide (64<x13)=false) (hm:(leS s).may=false),Calls Tryz.prog 102 #[Qd (u8s s)] w fun x w'=>x= .returned (.tuple #[Qd le0.C,.bool false])∧Kept [] w w')∧(∀(s q:List Int) (w:World) (hs:Byts 64 s) (hq:q.length=64) (x5 x13:Int) (H5:Hid ((u8s s)[5]?=some (.int .u8 x5))) (H13:Hid ((u8s s)[13]?=some (.int .u8 x13))) (hx5:decide (64<x5)=false) (hx13:decide (64<x13)=false) (hm:(leS s).may=true) (h14:∀W,Calls Tryz.prog 101 #[Qd (leS s).C] W fun e w'=>e= .returned (Qd (u8s q))∧Kept [] W w') (he:decide (q=s)=false),Calls Tryz.prog 102 #[Qd (u8s s)] w fun x w'=>x= .returned (.tuple #[Qd le0.C,.bool false])∧Kept [] w w')∧(∀(s q:List Int) (w:World) (hs:Byts 64 s) (hq:q.length=64) (x5 x13:Int) (H5:Hid ((u8s s)[5]?=some (.int .u8 x5))) (H13:Hid ((u8s s)[13]?=some (.int .u8 x13))) (hx5:decide (64<x5)=false) (hx13:decide (64<x13)=false) (hm:(leS s).may=true) (h14:∀W,Calls Tryz.prog 101 #[Qd (leS s).C] W fun e w'=>e= .returned (Qd (u8s q))∧Kept [] W w') (he:decide (q=s)=true),Calls Tryz.prog 102 #[Qd (u8s s)] w fun x w'=>x= .returned (.tuple #[Qd (leS s).C,.bool true])∧Kept [] w w'):=by
 refine⟨fun s w _hs x5 x13 H5 H13 hx5=> ?_,fun s w _hs x5 x13 H5 H13 hx5 hx13=> ?_,fun s w hs x5 x13 H5 H13 hx5 hx13 hm=> ?_,fun s q w hs hq x5 x13 H5 H13 hx5 hx13 hm h14 he=> ?_,fun s q w hs hq x5 x13 H5 H13 hx5 hx13 hm h14 he=> ?_⟩
 rotate_left
 rotate_left
 have P12:∀W,Hid (Calls Tryz.prog 99 #[Qd (leS s).C] W fun e w'=>e= .returned (.bool false)∧Kept [] W w'):=fun W=>hide (by have:=mayLease99 (leS s) W;rw [hm] at this;exact this)
 rotate_left
 have P12:∀W,Hid (Calls Tryz.prog 99 #[Qd (leS s).C] W fun e w'=>e= .returned (.bool true)∧Kept [] W w'):=fun W=>hide (by have:=mayLease99 (leS s) W;rw [hm] at this;exact this);have P14:∀W,Hid (Calls Tryz.prog 101 #[Qd (leS s).C] W fun e w'=>e= .returned (Qd (u8s q))∧Kept [] W w'):=fun W=>hide (h14 W);clear h14
 rotate_left
 have P12:∀W,Hid (Calls Tryz.prog 99 #[Qd (leS s).C] W fun e w'=>e= .returned (.bool true)∧Kept [] W w'):=fun W=>hide (by have:=mayLease99 (leS s) W;rw [hm] at this;exact this);have P14:∀W,Hid (Calls Tryz.prog 101 #[Qd (leS s).C] W fun e w'=>e= .returned (Qd (u8s q))∧Kept [] W w'):=fun W=>hide (h14 W);clear h14
 rotate_left
 all_goals
   go_enter Tryz.func102,Tryz.ntmps102
   have M:Hid (Mm [] w w []):=hide Mm.init;go_wp2_with (first |(refine Qp rfl (.tmp 0) rfl (u8s s) rfl ?_;intro W1 b1 e1 B1 K1;replace M:=hide ((Qa M).new e1 B1 K1);clear e1 B1 K1;refine Stp.go ?_))
   constructor
   go_wp2_with (first |(refine Qv (le0.C) QT 2 rfl rfl rfl ?_;intro W2 b2 e2 B2 K2;replace M:=hide ((Qa M).new e2 B2 K2);clear e2 B2 K2;have c5:=Qb ((Qa M).at 0 _ rfl) 5 _ (Qa H5);have c13:=Qb ((Qa M).at 0 _ rfl) 13 _ (Qa H13);refine Stp.go ?_))
   constructor
 · go_wp2_with (first |(refine QG (T:=73) le0.C build23 rfl rfl ?_;refine Stp.go ?_))
   constructor
   go_wp2_with (first |(refine Qh QC rfl (.tmp 2) (.tmp 13) rfl rfl b2 1 (le0.C) rfl rfl rfl (QV _) (Qa M) rfl rfl ?_;intro W3 N3;replace M:Hid (Mm [] w W3 [(b1,59,u8s s),(b2,73,le0.C)]):=hide N3;clear N3;refine Stp.go ?_))
   constructor
   go_wp2_with fail
   refine bodyPost_ret (res102 _ b2 le0.C false _ rfl rfl rfl ((Qa M).at 1 _ rfl)) rfl ?_;exact⟨rfl,(Qa M).kept⟩
 · go_wp2_with (first |(refine QG (T:=73) le0.C build23 rfl rfl ?_;refine Stp.go ?_))
   constructor
   go_wp2_with (first |(refine Qh QC rfl (.tmp 2) (.tmp 13) rfl rfl b2 1 (le0.C) rfl rfl rfl (QV _) (Qa M) rfl rfl ?_;intro W3 N3;replace M:Hid (Mm [] w W3 [(b1,59,u8s s),(b2,73,le0.C)]):=hide N3;clear N3;refine Stp.go ?_))
   constructor
   go_wp2_with fail
   refine bodyPost_ret (res102 _ b2 le0.C false _ rfl rfl rfl ((Qa M).at 1 _ rfl)) rfl ?_;exact⟨rfl,(Qa M).kept⟩
 all_goals
   go_wp2_with fail
   clear c5 c13;refine wp_region_any mixed (QL 9 rfl (by kernel_rfl) [some (Qd (u8s s)),some (.int .i64 (ofB 0 ((s.drop 1).take 4))),some (Qd (u8s s)),some (.int .i64 (ofB 0 ((s.drop 5).take 8))),some (Qd (u8s s)),some (.int .i64 (ofB 0 ((s.drop 13).take 8))),some (Qd (leS s).C),none,none] rfl (by kernel_rfl) (fun l vs W=>(SV W2 (leS s)) (fun i=>l.getD i false) vs W) (⟨⟨rfl,rfl,rfl,Nat.le_refl _,fun _ _ _=>rfl⟩,fun h=>by cases h⟩) ?_ ?_)
   · intro ix o' hi ho a' w2 l vs hls hlf hJ hout hin hdep hnot
     match ix,ho with
     | 0,ho=>
      obtain rfl:=Oj9 ho;have e0:=hout 1 (by kernel_rfl);replace e0:a'.eval (.tmp 1)=_:=e0.trans rfl;exact Qw row25 (.tmp 1) rfl b1 0 e0 (u8s s) (by rw [Qy];exact hs.len) (((Qa M).step hJ.1).at 0 _ rfl).range ⟨_,rfl,Qe rfl,Qj [7,8] SV.loc (by omega) (by decide) hJ⟩
     | 1,ho=>
      obtain rfl:=Oj9 ho;have e0:a'.eval (.tmp 14)=Qd (u8s s):=by have h9:=hin 0 14 (by kernel_rfl) (by kernel_rfl);exact h9.1.trans (Qc _ h9.2 rfl)
      refine Qq 112 _ _ rfl #[Qd (u8s s),.int .i64 1,.int .i64 4] (by simp [e0];exact⟨rfl,rfl⟩) (cg112 _ _) ((said112 4 1 s w2 hs (by omega)).mono ?_);rintro e w3 ⟨rfl,hk3⟩;exact⟨_,rfl,_,rfl,Qe rfl,Qj [7,8] SV.loc (by omega) (by decide) (SV.step hJ hk3)⟩
     | 2,ho=>
      obtain rfl:=Oj9 ho;have e0:=hout 1 (by kernel_rfl);replace e0:a'.eval (.tmp 1)=_:=e0.trans rfl;exact Qw row25 (.tmp 1) rfl b1 0 e0 (u8s s) (by rw [Qy];exact hs.len) (((Qa M).step hJ.1).at 0 _ rfl).range ⟨_,rfl,Qe rfl,Qj [7,8] SV.loc (by omega) (by decide) hJ⟩
     | 3,ho=>
      obtain rfl:=Oj9 ho;have e0:a'.eval (.tmp 16)=Qd (u8s s):=by have h9:=hin 2 16 (by kernel_rfl) (by kernel_rfl);exact h9.1.trans (Qc _ h9.2 rfl)
      refine Qq 112 _ _ rfl #[Qd (u8s s),.int .i64 5,.int .i64 8] (by simp [e0];exact⟨rfl,rfl⟩) (cg112 _ _) ((said112 8 5 s w2 hs (by omega)).mono ?_);rintro e w3 ⟨rfl,hk3⟩;exact⟨_,rfl,_,rfl,Qe rfl,Qj [7,8] SV.loc (by omega) (by decide) (SV.step hJ hk3)⟩
     | 4,ho=>
      obtain rfl:=Oj9 ho;have e0:=hout 1 (by kernel_rfl);replace e0:a'.eval (.tmp 1)=_:=e0.trans rfl;exact Qw row25 (.tmp 1) rfl b1 0 e0 (u8s s) (by rw [Qy];exact hs.len) (((Qa M).step hJ.1).at 0 _ rfl).range ⟨_,rfl,Qe rfl,Qj [7,8] SV.loc (by omega) (by decide) hJ⟩
     | 5,ho=>
      obtain rfl:=Oj9 ho;have e0:a'.eval (.tmp 18)=Qd (u8s s):=by have h9:=hin 4 18 (by kernel_rfl) (by kernel_rfl);exact h9.1.trans (Qc _ h9.2 rfl)
      refine Qq 112 _ _ rfl #[Qd (u8s s),.int .i64 13,.int .i64 8] (by simp [e0];exact⟨rfl,rfl⟩) (cg112 _ _) ((said112 8 13 s w2 hs (by omega)).mono ?_);rintro e w3 ⟨rfl,hk3⟩;exact⟨_,rfl,_,rfl,Qe rfl,Qj [7,8] SV.loc (by omega) (by decide) (SV.step hJ hk3)⟩
     | 6,ho=>
      obtain rfl:=Oj9 ho;have e0:a'.eval (.tmp 15)= .int .i64 (ofB 0 ((s.drop 1).take 4)):=by have h9:=hin 1 15 (by kernel_rfl) (by kernel_rfl);exact h9.1.trans (Qc _ h9.2 rfl)
      have e1:a'.eval (.tmp 17)= .int .i64 (ofB 0 ((s.drop 5).take 8)):=by have h9:=hin 3 17 (by kernel_rfl) (by kernel_rfl);exact h9.1.trans (Qc _ h9.2 rfl)
      have e2:a'.eval (.tmp 19)= .int .i64 (ofB 0 ((s.drop 13).take 8)):=by have h9:=hin 5 19 (by kernel_rfl) (by kernel_rfl);exact h9.1.trans (Qc _ h9.2 rfl)
      exact o_bld23 (.tmp 15) (.tmp 17) (.tmp 19) rfl _ _ _ e0 e1 e2 ⟨_,rfl,Qe rfl,Qj [7,8] SV.loc (by omega) (by decide) hJ⟩
     | 7,ho=>
      obtain rfl:=Oj9 ho;exact wp_allocA le0.C QT rfl ⟨_,rfl,QA rfl,QJ (by omega) ⟨hJ.1.alloc _,fun _=>⟨w2.heap.size,rfl,hJ.1.size,fun _=>Blk.new w2 73 _,fun h=>by have h9:l.getD 8 false=true:=h;rw [hnot 8 (by kernel_rfl)] at h9;cases h9⟩⟩⟩
     | 8,ho=>
      obtain rfl:=Oj9 ho;have e0:a'.eval (.tmp 4)=vs 7:=(hin 7 4 (by kernel_rfl) (by kernel_rfl)).1;have e1:a'.eval (.tmp 20)=Qd (leS s).C:=by have h9:=hin 6 20 (by kernel_rfl) (by kernel_rfl);exact h9.1.trans (Qc _ h9.2 rfl)
      obtain⟨p,hp,hge,hz0,_⟩:=hJ.2 (hdep 7 (by kernel_rfl));exact Zh QC (.tmp 4) (.tmp 20) rfl rfl p 0 _ (e0.trans hp) e1 rfl (QV _) ((hz0 hlf).there (by decide)) ⟨undef,rfl,QA rfl,QJ (by omega) ⟨hJ.1.setCells _ _ (by omega),fun _=>⟨p,hp,hge,(fun h=>by cases h),fun _=>(hz0 hlf).put rfl⟩⟩⟩
   intro l_ vs4 V4 hl hJ htold;have t0:vs4 0=Qd (u8s s):=Qc _ (htold 0 (by decide)) rfl;have t1:vs4 1= .int .i64 (ofB 0 ((s.drop 1).take 4)):=Qc _ (htold 1 (by decide)) rfl;have t2:vs4 2=Qd (u8s s):=Qc _ (htold 2 (by decide)) rfl;have t3:vs4 3= .int .i64 (ofB 0 ((s.drop 5).take 8)):=Qc _ (htold 3 (by decide)) rfl;have t4:vs4 4=Qd (u8s s):=Qc _ (htold 4 (by decide)) rfl;have t5:vs4 5= .int .i64 (ofB 0 ((s.drop 13).take 8)):=Qc _ (htold 5 (by decide)) rfl;have t6:vs4 6=Qd (leS s).C:=Qc _ (htold 6 (by decide)) rfl;rw [show (List.range 9).map vs4= [vs4 0,vs4 1,vs4 2,vs4 3,vs4 4,vs4 5,vs4 6,vs4 7,vs4 8] from rfl];simp only [t0,t1,t2,t3,t4,t5,t6,Qz,Act.put,List.setIfInBounds_toArray,List.set_cons_succ,List.set_cons_zero];clear t0 t1 t2 t3 t4 t5 t6 htold;obtain⟨p,ep,hgp,_,hbp⟩:=hJ.2 (hl 7 (by decide));replace hbp:=hbp (hl 8 (by decide));have hb1:b1<W2.heap.size:=((Qa M).at 0 _ rfl).lt;have hb2:b2<W2.heap.size:=((Qa M).at 1 _ rfl).lt;have hwz:=(Qa M).kept.size;replace M:Hid (Mm [] w V4 [(b1,59,u8s s),(b2,73,le0.C),(p,73,(leS s).C)]):=hide (((Qa M).step hJ.1).add hbp (by omega) (fun x hx=>by simp at hx;rcases hx with rfl | rfl <;> simp <;> omega));rw [ep];clear hJ hl ep hgp hbp hb1 hb2 hwz;go_wp2_with fail
 · refine wp_region_any mixed (QW 9 rfl (by kernel_rfl) [some (Qd (leS s).C),some (.bool false),some (.bool true),some (.bool true),none,none,none,none,some (.bool true)] rfl (by kernel_rfl) (by kernel_rfl) ?_ ?_)
   · intro i o' hi hsk ho a' w2 hout hin hk2;replace hk2:Kept [] V4 w2:=⟨hk2.os,hk2.tape,hk2.output,hk2.size,hk2.block⟩
     match i,ho,hsk with
     | 0,ho,hsk=>
      obtain rfl:=Oj9 ho;exact Qw QC (.tmp 4) rfl p 0 ((hout 4 (by kernel_rfl)).trans rfl) (leS s).C rfl (((Qa M).step hk2).at 2 _ rfl).range (tE rfl)
     | 1,ho,hsk=>
      obtain rfl:=Oj9 ho;have e0:a'.eval (.tmp 21)=Qd (leS s).C:=Qm (hin 0 21 (by kernel_rfl) (by kernel_rfl)) rfl;refine Qq 99 _ _ rfl #[Qd (leS s).C] (by simp [e0]) (cg99 _ _) ((Qa (P12 _)).mono ?_);rintro e w3 ⟨rfl,hk3⟩;exact⟨_,rfl,_,rfl,Qi _ _ _ _ rfl,hk3,fun _ _ _ _ _=>trivial⟩
     | 2,ho,hsk=>
      obtain rfl:=Oj9 ho;have e0:a'.eval (.tmp 22)= .bool false:=Qm (hin 1 22 (by kernel_rfl) (by kernel_rfl)) rfl;exact o_not (.tmp 22) rfl false e0 (tE rfl)
     | 3,ho,hsk=>
      obtain rfl:=Oj9 ho;have e0:a'.eval (.tmp 23)= .bool true:=Qm (hin 2 23 (by kernel_rfl) (by kernel_rfl)) rfl;exact wp_move (.tmp 23) rfl _ e0 (tE rfl)
     | 4,ho,hsk=>
      cases hsk
     | 5,ho,hsk=>
      cases hsk
     | 6,ho,hsk=>
      cases hsk
     | 7,ho,hsk=>
      cases hsk
     | 8,ho,hsk=>
      obtain rfl:=Oj9 ho;have e0:a'.eval (.tmp 24)= .bool true:=Qm (hin 3 24 (by kernel_rfl) (by kernel_rfl)) rfl;exact o_pickOrT (.tmp 24) (.tmp 28) rfl e0 (tE rfl)
   intro w9 hk9;replace hk9:Kept [] V4 w9:=⟨hk9.os,hk9.tape,hk9.output,hk9.size,hk9.block⟩;simp only [valsQ,List.map_cons,List.map_nil,Option.getD_some,Option.getD_none,List.take_succ_cons,List.take_zero,Qz,Act.put,List.setIfInBounds_toArray,List.set_cons_succ,List.set_cons_zero];refine wpAny_done (by kernel_rfl) ?_ _;replace M:=hide ((Qa M).step hk9);clear hk9;go_wp2_with (first |(refine QG (T:=73) le0.C build23 rfl rfl ?_;refine Stp.go ?_))
   constructor
   go_wp2_with (first |(refine Qh QC rfl (.tmp 2) (.tmp 30) rfl rfl b2 1 (le0.C) rfl rfl rfl (QV _) (Qa M) rfl rfl ?_;intro W41 N41;replace M:Hid (Mm [] w W41 [(b1,59,u8s s),(b2,73,le0.C),(p,73,(leS s).C)]):=hide N41;clear N41;refine Stp.go ?_))
   constructor
   go_wp2_with fail
   refine bodyPost_ret (res102 _ b2 le0.C false _ rfl rfl rfl ((Qa M).at 1 _ rfl)) rfl ?_;exact⟨rfl,(Qa M).kept⟩
 · refine wp_region_any mixed (QW 9 rfl (by kernel_rfl) [some (Qd (leS s).C),some (.bool true),some (.bool false),some (.bool false),some (Qd (leS s).C),some (Qd (u8s q)),some (Qd (u8s s)),some (.bool true),some (.bool true)] rfl (by kernel_rfl) (by kernel_rfl) ?_ ?_)
   · intro i o' hi hsk ho a' w2 hout hin hk2;replace hk2:Kept [] V4 w2:=⟨hk2.os,hk2.tape,hk2.output,hk2.size,hk2.block⟩
     match i,ho,hsk with
     | 0,ho,hsk=>
      obtain rfl:=Oj9 ho;exact Qw QC (.tmp 4) rfl p 0 ((hout 4 (by kernel_rfl)).trans rfl) (leS s).C rfl (((Qa M).step hk2).at 2 _ rfl).range (tE rfl)
     | 1,ho,hsk=>
      obtain rfl:=Oj9 ho;have e0:a'.eval (.tmp 21)=Qd (leS s).C:=Qm (hin 0 21 (by kernel_rfl) (by kernel_rfl)) rfl;refine Qq 99 _ _ rfl #[Qd (leS s).C] (by simp [e0]) (cg99 _ _) ((Qa (P12 _)).mono ?_);rintro e w3 ⟨rfl,hk3⟩;exact⟨_,rfl,_,rfl,Qi _ _ _ _ rfl,hk3,fun _ _ _ _ _=>trivial⟩
     | 2,ho,hsk=>
      obtain rfl:=Oj9 ho;have e0:a'.eval (.tmp 22)= .bool true:=Qm (hin 1 22 (by kernel_rfl) (by kernel_rfl)) rfl;exact o_not (.tmp 22) rfl true e0 (tE rfl)
     | 3,ho,hsk=>
      obtain rfl:=Oj9 ho;have e0:a'.eval (.tmp 23)= .bool false:=Qm (hin 2 23 (by kernel_rfl) (by kernel_rfl)) rfl;exact wp_move (.tmp 23) rfl _ e0 (tE rfl)
     | 4,ho,hsk=>
      obtain rfl:=Oj9 ho;exact Qw QC (.tmp 4) rfl p 0 ((hout 4 (by kernel_rfl)).trans rfl) (leS s).C rfl (((Qa M).step hk2).at 2 _ rfl).range (tE rfl)
     | 5,ho,hsk=>
      obtain rfl:=Oj9 ho;have e0:a'.eval (.tmp 25)=Qd (leS s).C:=Qm (hin 4 25 (by kernel_rfl) (by kernel_rfl)) rfl;refine Qq 101 _ _ rfl #[Qd (leS s).C] (by simp [e0]) (cg101 _ _) ((Qa (P14 _)).mono ?_);rintro e w3 ⟨rfl,hk3⟩;exact⟨_,rfl,_,rfl,Qi _ _ _ _ rfl,hk3,fun _ _ _ _ _=>trivial⟩
     | 6,ho,hsk=>
      obtain rfl:=Oj9 ho;exact Qw row25 (.tmp 1) rfl b1 0 ((hout 1 (by kernel_rfl)).trans rfl) (u8s s) (by rw [Qy];exact hs.len) (((Qa M).step hk2).at 0 _ rfl).range (tE rfl)
     | 7,ho,hsk=>
      obtain rfl:=Oj9 ho;have e0:a'.eval (.tmp 26)=Qd (u8s q):=Qm (hin 5 26 (by kernel_rfl) (by kernel_rfl)) rfl;have e1:a'.eval (.tmp 27)=Qd (u8s s):=Qm (hin 6 27 (by kernel_rfl) (by kernel_rfl)) rfl;exact o_neqA 59 59 guard25 (.tmp 26) (.tmp 27) rfl (u8s q) (u8s s) e0 e1 false ((equal25 _ q s hq hs.len).trans (by rw [he])) (tE rfl)
     | 8,ho,hsk=>
      obtain rfl:=Oj9 ho;have e0:a'.eval (.tmp 24)= .bool false:=Qm (hin 3 24 (by kernel_rfl) (by kernel_rfl)) rfl;have e1:a'.eval (.tmp 28)= .bool true:=Qm (hin 7 28 (by kernel_rfl) (by kernel_rfl)) rfl;exact o_pickOr0 (.tmp 24) (.tmp 28) rfl _ e0 e1 (tE rfl)
   intro w9 hk9;replace hk9:Kept [] V4 w9:=⟨hk9.os,hk9.tape,hk9.output,hk9.size,hk9.block⟩;simp only [valsQ,List.map_cons,List.map_nil,Option.getD_some,List.take_succ_cons,List.take_zero,Qz,Act.put,List.setIfInBounds_toArray,List.set_cons_succ,List.set_cons_zero];refine wpAny_done (by kernel_rfl) ?_ _;replace M:=hide ((Qa M).step hk9);clear hk9;go_wp2_with (first |(refine QG (T:=73) le0.C build23 rfl rfl ?_;refine Stp.go ?_))
   constructor
   go_wp2_with (first |(refine Qh QC rfl (.tmp 2) (.tmp 30) rfl rfl b2 1 (le0.C) rfl rfl rfl (QV _) (Qa M) rfl rfl ?_;intro W41 N41;replace M:Hid (Mm [] w W41 [(b1,59,u8s s),(b2,73,le0.C),(p,73,(leS s).C)]):=hide N41;clear N41;refine Stp.go ?_))
   constructor
   go_wp2_with fail
   refine bodyPost_ret (res102 _ b2 le0.C false _ rfl rfl rfl ((Qa M).at 1 _ rfl)) rfl ?_;exact⟨rfl,(Qa M).kept⟩
 refine wp_region_any mixed (QW 9 rfl (by kernel_rfl) [some (Qd (leS s).C),some (.bool true),some (.bool false),some (.bool false),some (Qd (leS s).C),some (Qd (u8s q)),some (Qd (u8s s)),some (.bool false),some (.bool false)] rfl (by kernel_rfl) (by kernel_rfl) ?_ ?_)
 · intro i o' hi hsk ho a' w2 hout hin hk2;replace hk2:Kept [] V4 w2:=⟨hk2.os,hk2.tape,hk2.output,hk2.size,hk2.block⟩
   match i,ho,hsk with
   | 0,ho,hsk=>
     obtain rfl:=Oj9 ho;exact Qw QC (.tmp 4) rfl p 0 ((hout 4 (by kernel_rfl)).trans rfl) (leS s).C rfl (((Qa M).step hk2).at 2 _ rfl).range (tE rfl)
   | 1,ho,hsk=>
     obtain rfl:=Oj9 ho;have e0:a'.eval (.tmp 21)=Qd (leS s).C:=Qm (hin 0 21 (by kernel_rfl) (by kernel_rfl)) rfl;refine Qq 99 _ _ rfl #[Qd (leS s).C] (by simp [e0]) (cg99 _ _) ((Qa (P12 _)).mono ?_);rintro e w3 ⟨rfl,hk3⟩;exact⟨_,rfl,_,rfl,Qi _ _ _ _ rfl,hk3,fun _ _ _ _ _=>trivial⟩
   | 2,ho,hsk=>
     obtain rfl:=Oj9 ho;have e0:a'.eval (.tmp 22)= .bool true:=Qm (hin 1 22 (by kernel_rfl) (by kernel_rfl)) rfl;exact o_not (.tmp 22) rfl true e0 (tE rfl)
   | 3,ho,hsk=>
     obtain rfl:=Oj9 ho;have e0:a'.eval (.tmp 23)= .bool false:=Qm (hin 2 23 (by kernel_rfl) (by kernel_rfl)) rfl;exact wp_move (.tmp 23) rfl _ e0 (tE rfl)
   | 4,ho,hsk=>
     obtain rfl:=Oj9 ho;exact Qw QC (.tmp 4) rfl p 0 ((hout 4 (by kernel_rfl)).trans rfl) (leS s).C rfl (((Qa M).step hk2).at 2 _ rfl).range (tE rfl)
   | 5,ho,hsk=>
     obtain rfl:=Oj9 ho;have e0:a'.eval (.tmp 25)=Qd (leS s).C:=Qm (hin 4 25 (by kernel_rfl) (by kernel_rfl)) rfl;refine Qq 101 _ _ rfl #[Qd (leS s).C] (by simp [e0]) (cg101 _ _) ((Qa (P14 _)).mono ?_);rintro e w3 ⟨rfl,hk3⟩;exact⟨_,rfl,_,rfl,Qi _ _ _ _ rfl,hk3,fun _ _ _ _ _=>trivial⟩
   | 6,ho,hsk=>
     obtain rfl:=Oj9 ho;exact Qw row25 (.tmp 1) rfl b1 0 ((hout 1 (by kernel_rfl)).trans rfl) (u8s s) (by rw [Qy];exact hs.len) (((Qa M).step hk2).at 0 _ rfl).range (tE rfl)
   | 7,ho,hsk=>
     obtain rfl:=Oj9 ho;have e0:a'.eval (.tmp 26)=Qd (u8s q):=Qm (hin 5 26 (by kernel_rfl) (by kernel_rfl)) rfl;have e1:a'.eval (.tmp 27)=Qd (u8s s):=Qm (hin 6 27 (by kernel_rfl) (by kernel_rfl)) rfl;exact o_neqA 59 59 guard25 (.tmp 26) (.tmp 27) rfl (u8s q) (u8s s) e0 e1 true ((equal25 _ q s hq hs.len).trans (by rw [he])) (tE rfl)
   | 8,ho,hsk=>
     obtain rfl:=Oj9 ho;have e0:a'.eval (.tmp 24)= .bool false:=Qm (hin 3 24 (by kernel_rfl) (by kernel_rfl)) rfl;have e1:a'.eval (.tmp 28)= .bool false:=Qm (hin 7 28 (by kernel_rfl) (by kernel_rfl)) rfl;exact o_pickOr0 (.tmp 24) (.tmp 28) rfl _ e0 e1 (tE rfl)
 intro w9 hk9;replace hk9:Kept [] V4 w9:=⟨hk9.os,hk9.tape,hk9.output,hk9.size,hk9.block⟩;simp only [valsQ,List.map_cons,List.map_nil,Option.getD_some,List.take_succ_cons,List.take_zero,Qz,Act.put,List.setIfInBounds_toArray,List.set_cons_succ,List.set_cons_zero];refine wpAny_done (by kernel_rfl) ?_ _;replace M:=hide ((Qa M).step hk9);clear hk9;go_wp2_with (first |(refine Qg QC rfl (.tmp 4) rfl p 0 rfl ((leS s).C) rfl ((Qa M).at 2 _ rfl).range ?_;refine Stp.go ?_))
 constructor
 go_wp2_with (first |(refine Qh QC rfl (.tmp 2) (.tmp 31) rfl rfl b2 1 ((leS s).C) rfl rfl rfl (QV _) (Qa M) rfl rfl ?_;intro W41 N41;replace M:Hid (Mm [] w W41 [(b1,59,u8s s),(b2,73,(leS s).C),(p,73,(leS s).C)]):=hide N41;clear N41;refine Stp.go ?_))
 constructor
 go_wp2_with fail
 refine bodyPost_ret (res102 _ b2 (leS s).C true _ rfl rfl rfl ((Qa M).at 1 _ rfl)) rfl ?_;exact⟨rfl,(Qa M).kept⟩
theorem eight {s:List Int} (hs:Byts 64 s) (k:Nat) (hk:k+8≤64):∃a b c d e f g h:Int,(s.drop k).take 8= [a,b,c,d,e,f,g,h]∧a=s.getD k 0∧(∀x∈ [a,b,c,d,e,f,g,h],0≤x∧x<256):=by
 have hl:((s.drop k).take 8).length=8:=by rw [List.length_take,List.length_drop,hs.len];omega
 match hq:(s.drop k).take 8,hl with
 | [a,b,c,d,e,f,g,h],_=>
  refine⟨a,b,c,d,e,f,g,h,rfl,?_,?_⟩
  · have h0:((s.drop k).take 8)[0]?=some a:=by rw [hq];rfl
    rw [List.getElem?_take_of_lt (by omega),List.getElem?_drop,Nat.add_zero] at h0;rw [List.getD_eq_getElem?_getD,h0];rfl
  · intro x hx;rw [← hq] at hx;exact hs.byte x (List.mem_of_mem_drop (List.mem_of_mem_take hx))
theorem ofB_big {s:List Int} (hs:Byts 64 s) (k:Nat) (hk:k+8≤64) (h:64<s.getD k 0):ofB 0 ((s.drop k).take 8)<0∨4611686018427387904<ofB 0 ((s.drop k).take 8):=by
 obtain⟨a,b,c,d,e,f,g,i,hq,ha,hb⟩:=eight hs k hk;rw [hq];rw [← ha] at h;clear ha hq;simp only [List.mem_cons,List.not_mem_nil,or_false,forall_eq_or_imp,forall_eq] at hb;obtain⟨b0,b1,b2,b3,b4,b5,b6,b7⟩:=hb;simp only [ofB];have w0:wrap64 (0*256+a)=a:=by unfold wrap64;omega
 rw [w0];have w1:wrap64 (a*256+b)=a*256+b:=by unfold wrap64;omega
 rw [w1];have w2:wrap64 ((a*256+b)*256+c)=(a*256+b)*256+c:=by unfold wrap64;omega
 rw [w2];have w3:wrap64 (((a*256+b)*256+c)*256+d)=((a*256+b)*256+c)*256+d:=by unfold wrap64;omega
 rw [w3];obtain⟨q,hq4⟩:∃q,q=((a*256+b)*256+c)*256+d:=⟨_,rfl⟩;rw [← hq4];have hq5:65*16777216≤q∧q<256*16777216:=by omega
 have w4:wrap64 (q*256+e)=q*256+e:=by unfold wrap64;omega
 rw [w4];have w5:wrap64 ((q*256+e)*256+f)=(q*256+e)*256+f:=by unfold wrap64;omega
 rw [w5];have w6:wrap64 (((q*256+e)*256+f)*256+g)=((q*256+e)*256+f)*256+g:=by unfold wrap64;omega
 rw [w6];unfold wrap64;omega
theorem rget102 (s:List Int) (w:World) (hs:Byts 64 s):Calls Tryz.prog 102 #[Qd (u8s s)] w fun x w'=>x= .returned (.tuple #[Qd (getL s).1.C,.bool (decide ((getL s).2=0))])∧Kept [] w w':=by
 unfold getL;have hl:=putL_len (leS s);have hno:(leS s).may=false→¬putL (leS s)=(s,0):=fun hm=>by unfold putL;rw [if_pos hm];intro h;have:=congrArg Prod.snd h;simp at this
 have H5:=hide (u8_at hs.len 5 (by omega));have H13:=hide (u8_at hs.len 13 (by omega));by_cases hx5:64<s.getD 5 0
 · have hm:(leS s).may=false:=decide_eq_false (by have:=ofB_big hs 5 (by omega) hx5;simp only [leS];omega);rw [if_neg (hno hm)];exact rget_a_F.1 s w hs _ _ H5 H13 (decide_eq_true hx5)
 by_cases hx13:64<s.getD 13 0
 · have hm:(leS s).may=false:=decide_eq_false (by have:=ofB_big hs 13 (by omega) hx13;simp only [leS];omega);rw [if_neg (hno hm)];exact rget_a_F.2.1 s w hs _ _ H5 H13 (decide_eq_false hx5) (decide_eq_true hx13)
 have h5:=decide_eq_false hx5;have h13:=decide_eq_false hx13;cases hm:(leS s).may with
 | false=>
   rw [if_neg (hno hm)];exact rget_a_F.2.2.1 s w hs _ _ H5 H13 h5 h13 hm
 | true=>
   have h14:=fun W=>rput101 (leS s) W hm;have h0:(putL (leS s)).2=0:=by unfold putL;rw [if_neg (by rw [hm];simp)];split <;> rfl
   by_cases he:(putL (leS s)).1=s
   · rw [if_pos (Prod.ext he h0)];exact rget_a_F.2.2.2.2 s _ w hs hl _ _ H5 H13 h5 h13 hm h14 (by simpa using he)
   · rw [if_neg (fun h=>he (by rw [h]))];exact rget_a_F.2.2.2.1 s _ w hs hl _ _ H5 H13 h5 h13 hm h14 (by simpa using he)
end Le
open Go.RowKit
open Le (Mm Qh Qo)
theorem build29f (w:World):(Instr.build 29 #[(1,.bool true)]).run Tryz.prog w= .ok (Qd (Vi.vwC Vi.fv)) w:=by kernel_rfl
namespace Vi
set_option linter.unusedVariables false in
theorem rmay_f_F:(∀(v:Vw) (w:World) (hv:v.ms.length=8) (h0:v=fv),Calls Tryz.prog 50 #[Qd (vwC v)] w fun e w'=>e= .returned (.bool true)∧Kept [] w w')∧(∀(v:Vw) (w:World) (hv:v.ms.length=8) (HE:decide (v=fv)=false) (h1:1≤v.nu) (h2:v.nu≤4611686018427387904) (g0:0≤v.fd) (g8:v.fd<8) (hin:(v.mem v.fd).1=false),Calls Tryz.prog 50 #[Qd (vwC v)] w fun e w'=>e= .returned (.bool false)∧Kept [] w w')∧(∀(v:Vw) (w:World) (hv:v.ms.length=8) (HE:decide (v=fv)=false) (h1:1≤v.nu) (h2:v.nu≤4611686018427387904) (g0:0≤v.fd) (g8:v.fd<8) (hin:(v.mem v.fd).1=true),Calls Tryz.prog 50 #[Qd (vwC v)] w fun e w'=>e= .returned (.bool (v.ms.all Zy))∧Kept [] w w')∧(∀(v:Vw) (w:World) (hv:v.ms.length=8) (HE:decide (v=fv)=false) (h:v.nu<1),Calls Tryz.prog 50 #[Qd (vwC v)] w fun e w'=>e= .returned (.bool false)∧Kept [] w w')∧(∀(v:Vw) (w:World) (hv:v.ms.length=8) (HE:decide (v=fv)=false) (h1:1≤v.nu) (h:4611686018427387904<v.nu),Calls Tryz.prog 50 #[Qd (vwC v)] w fun e w'=>e= .returned (.bool false)∧Kept [] w w')∧(∀(v:Vw) (w:World) (hv:v.ms.length=8) (HE:decide (v=fv)=false) (h1:1≤v.nu) (h2:v.nu≤4611686018427387904) (h:v.fd<0),Calls Tryz.prog 50 #[Qd (vwC v)] w fun e w'=>e= .returned (.bool false)∧Kept [] w w')∧(∀(v:Vw) (w:World) (hv:v.ms.length=8) (HE:decide (v=fv)=false) (h1:1≤v.nu) (h2:v.nu≤4611686018427387904) (h3:0≤v.fd) (h:8≤v.fd),Calls Tryz.prog 50 #[Qd (vwC v)] w fun e w'=>e= .returned (.bool false)∧Kept [] w w'):=by
 refine⟨fun v w hv h0=> ?_,fun v w hv HE h1 h2 g0 g8 hin=> ?_,fun v w hv HE h1 h2 g0 g8 hin=> ?_,fun v w hv HE h=> ?_,fun v w hv HE h1 h=> ?_,fun v w hv HE h1 h2 h=> ?_,fun v w hv HE h1 h2 h3 h=> ?_⟩;have HE:decide (v=fv)=true:=by simpa using h0
 clear h0;have HHE:=hide HE;clear HE
 rotate_left
 have hd1:decide (v.nu<1)=false:=by simp;omega
 have hd2:decide (4611686018427387904<v.nu)=false:=by simp;omega
 have hd3:decide (v.fd<0)=false:=by simp;omega
 have hd4:decide (8≤v.fd)=false:=by simp;omega
 have HHE:=hide HE;clear HE
 rotate_left
 have hd1:decide (v.nu<1)=false:=by simp;omega
 have hd2:decide (4611686018427387904<v.nu)=false:=by simp;omega
 have hd3:decide (v.fd<0)=false:=by simp;omega
 have hd4:decide (8≤v.fd)=false:=by simp;omega
 have HHE:=hide HE;clear HE
 rotate_left
 have HHE:=hide HE;clear HE
 rotate_left
 have hd1:decide (v.nu<1)=false:=by simp;omega
 have HHE:=hide HE;clear HE
 rotate_left
 have hd1:decide (v.nu<1)=false:=by simp;omega
 have hd2:decide (4611686018427387904<v.nu)=false:=by simp;omega
 have HHE:=hide HE;clear HE
 rotate_left
 have hd1:decide (v.nu<1)=false:=by simp;omega
 have hd2:decide (4611686018427387904<v.nu)=false:=by simp;omega
 have hd3:decide (v.fd<0)=false:=by simp;omega
 have HHE:=hide HE;clear HE
 rotate_left
 all_goals
   go_enter Tryz.func50,Tryz.ntmps50
   have M:Hid (Le.Mm [] w w []):=hide (Le.Mm.init);go_wp2_with (first |(refine Qp rfl (.tmp 0) rfl (vwC v) rfl ?_;intro W1 b1 e1 B1 K1;replace M:=hide ((Qa M).new e1 B1 K1);clear e1 B1 K1;refine Stp.go ?_))
   constructor
   go_wp2_with (first |(refine Qg Qn rfl (.tmp 1) rfl b1 0 rfl (vwC v) (Qk hv) ((Qa M).at 0 _ rfl).range ?_;refine Stp.go ?_))
   constructor
   go_wp2_with (first |(refine Ar.Zm rfl #[(1,.const (.bool true))] rfl #[(1,.bool true)] (by simp [Act.eval]) (vwC fv) (build29f _) ?_;refine Stp.go ?_))
   constructor
 · go_wp2_with (first |(refine wpEqlA 29 29 guard26 (.tmp 5) (.tmp 6) rfl rfl (vwC v) (vwC fv) rfl rfl true ((equal26 _ v fv hv rfl).trans (by rw [Qa HHE])) ?_;refine Stp.go ?_))
   constructor
   go_wp2_with fail
   go_ret
   exact⟨rfl,(Qa M).kept⟩
 all_goals
   go_wp2_with (first |(refine wpEqlA 29 29 guard26 (.tmp 5) (.tmp 6) rfl rfl (vwC v) (vwC fv) rfl rfl false ((equal26 _ v fv hv rfl).trans (by rw [Qa HHE])) ?_;refine Stp.go ?_))
   constructor
   have c0:=Qb ((Qa M).at 0 _ rfl) 0 _ rfl;have c2:=Qb ((Qa M).at 0 _ rfl) 2 _ rfl
 · obtain⟨m0,m1⟩:=Blk.mem ((Qa M).at 0 _ rfl) hv g0 g8;rw [hin] at m0;go_wp2_with fail
   go_ret
   exact⟨rfl,(Qa M).kept⟩
 · obtain⟨m0,m1⟩:=Blk.mem ((Qa M).at 0 _ rfl) hv g0 g8;rw [hin] at m0;go_wp2_with fail
   clear c0 c2 m0 m1 hd1 hd2 hd3 hd4 h1 h2 g0 g8 hin;go_loopw [3] (fun i wr=>∃j:Nat,j≤8∧i= .int .i64 j∧Hid (∀m∈v.ms.take j,Zy m=true)∧Hid (Le.Mm [] w wr [(b1,29,vwC v)])) (fun i _=>8-(intOf i).toNat)
   case atStart=>exact ⟨0,by omega,rfl,(fun m hm=>by simp at hm),M⟩
   case round=>
    clear M;obtain⟨j,hj,rfl,HA,M⟩:=hrel;by_cases hlt:j<8
    · obtain⟨m,hm⟩:∃m,v.ms[j]?=some m:=⟨_,List.getElem?_eq_getElem (by omega)⟩;have hltI:(j:Int)<8:=by omega
      have HR:Hid (wr.rangeAt b1 (3+j*2) (QD m)):=by
        have B:=(Qa M).at 0 _ rfl;obtain⟨x0,x1⟩:=vwC_at hm;refine hide (B.rangeIn _ fun i hi=> ?_);rw [Nat.mul_comm] at x0 x1
        match i,hi with
        | 0,_=>exact x0
        | 1,_=>exact x1
        | n+2,hi=>simp [QD] at hi;omega
      obtain⟨mi,me⟩:=m;by_cases hok:Zy (mi,me)=true
      · have HT:Hid (∀m∈v.ms.take (j+1),Zy m=true):=by
         intro m' hm';rw [List.take_add_one,hm] at hm';rcases List.mem_append.1 hm' with h | h
         · exact Qa HA m' h
         · simp at h;rw [h];exact hok
        clear HA hm;cases mi with
        | true=>
         have he:1≤me∧me≤2147483647:=by simpa [Zy,isEp] using hok
         obtain⟨he1,he2⟩:=he;have hd1:decide (me<1)=false:=by simp;omega
         have hd2:decide (2147483647<me)=false:=by simp;omega
         clear hok;go_wp2_with (first |(refine Qg QC rfl (.tmp 41) rfl b1 (3+j*2) rfl (QD (true,me)) rfl (Qa HR) ?_;refine Stp.go ?_))
         constructor
         go_wp2_with (first |(refine QM QC (QD (false,0)) rfl QT 4 rfl rfl rfl (.tmp 42) rfl rfl rfl (QD (true,me)) rfl (Ze _) (by kernel_rfl) (by kernel_rfl) ?_;intro W11 b11 e11 B11 K11;replace M:=hide ((Qa M).new e11 B11 K11);clear e11 B11 K11;have d0:=Qb ((Qa M).at 1 _ rfl) 0 _ rfl;have d1:=Qb ((Qa M).at 1 _ rfl) 1 _ rfl;refine Stp.go ?_))
         constructor
         go_wp2_with fail
         go_roundw
         case rel=>exact ⟨j+1,by omega,by go_num,HT,hide ((Qa M).less ((List.nil_sublist _).cons_cons _))⟩
         case measure=>simp [intOf];omega
        | false=>
         have he:me=0:=by simpa [Zy] using hok
         subst he;clear hok;go_wp2_with (first |(refine Qg QC rfl (.tmp 41) rfl b1 (3+j*2) rfl (QD (false,0)) rfl (Qa HR) ?_;refine Stp.go ?_))
         constructor
         go_wp2_with (first |(refine QM QC (QD (false,0)) rfl QT 4 rfl rfl rfl (.tmp 42) rfl rfl rfl (QD (false,0)) rfl (Ze _) (by kernel_rfl) (by kernel_rfl) ?_;intro W11 b11 e11 B11 K11;replace M:=hide ((Qa M).new e11 B11 K11);clear e11 B11 K11;have d0:=Qb ((Qa M).at 1 _ rfl) 0 _ rfl;have d1:=Qb ((Qa M).at 1 _ rfl) 1 _ rfl;refine Stp.go ?_))
         constructor
         go_wp2_with fail
         go_roundw
         case rel=>exact ⟨j+1,by omega,by go_num,HT,hide ((Qa M).less ((List.nil_sublist _).cons_cons _))⟩
         case measure=>simp [intOf];omega
      · have HFA:Hid (v.ms.all Zy=false):=by
         have:v.ms.all Zy=false:=by
           rw [List.all_eq_false];exact⟨(mi,me),List.mem_of_getElem? hm,hok⟩
         exact this
        clear HA hm;cases mi with
        | true=>
         have he:¬(1≤me∧me≤2147483647):=by simpa [Zy,isEp] using hok
         clear hok;by_cases he1:1≤me
         · have he2:2147483647<me:=by omega
           have hd1:decide (me<1)=false:=by simp;omega
           clear he;go_wp2_with (first |(refine Qg QC rfl (.tmp 41) rfl b1 (3+j*2) rfl (QD (true,me)) rfl (Qa HR) ?_;refine Stp.go ?_))
           constructor
           go_wp2_with (first |(refine QM QC (QD (false,0)) rfl QT 4 rfl rfl rfl (.tmp 42) rfl rfl rfl (QD (true,me)) rfl (Ze _) (by kernel_rfl) (by kernel_rfl) ?_;intro W11 b11 e11 B11 K11;replace M:=hide ((Qa M).new e11 B11 K11);clear e11 B11 K11;have d0:=Qb ((Qa M).at 1 _ rfl) 0 _ rfl;have d1:=Qb ((Qa M).at 1 _ rfl) 1 _ rfl;refine Stp.go ?_))
           constructor
           go_wp2_with fail
           go_ret
           exact⟨by rw [Qa HFA];rfl,(Qa M).kept⟩
         · have hd1:decide (me<1)=true:=by simp;omega
           clear he;go_wp2_with (first |(refine Qg QC rfl (.tmp 41) rfl b1 (3+j*2) rfl (QD (true,me)) rfl (Qa HR) ?_;refine Stp.go ?_))
           constructor
           go_wp2_with (first |(refine QM QC (QD (false,0)) rfl QT 4 rfl rfl rfl (.tmp 42) rfl rfl rfl (QD (true,me)) rfl (Ze _) (by kernel_rfl) (by kernel_rfl) ?_;intro W11 b11 e11 B11 K11;replace M:=hide ((Qa M).new e11 B11 K11);clear e11 B11 K11;have d0:=Qb ((Qa M).at 1 _ rfl) 0 _ rfl;have d1:=Qb ((Qa M).at 1 _ rfl) 1 _ rfl;refine Stp.go ?_))
           constructor
           go_wp2_with fail
           go_ret
           exact⟨by rw [Qa HFA];rfl,(Qa M).kept⟩
        | false=>
         have he:¬me=0:=by simpa [Zy] using hok
         have hde:decide (me=0)=false:=by simpa using he
         clear hok;go_wp2_with (first |(refine Qg QC rfl (.tmp 41) rfl b1 (3+j*2) rfl (QD (false,me)) rfl (Qa HR) ?_;refine Stp.go ?_))
         constructor
         go_wp2_with (first |(refine QM QC (QD (false,0)) rfl QT 4 rfl rfl rfl (.tmp 42) rfl rfl rfl (QD (false,me)) rfl (Ze _) (by kernel_rfl) (by kernel_rfl) ?_;intro W11 b11 e11 B11 K11;replace M:=hide ((Qa M).new e11 B11 K11);clear e11 B11 K11;have d0:=Qb ((Qa M).at 1 _ rfl) 0 _ rfl;have d1:=Qb ((Qa M).at 1 _ rfl) 1 _ rfl;refine Stp.go ?_))
         constructor
         go_wp2_with fail
         go_ret
         exact⟨by rw [Qa HFA];rfl,(Qa M).kept⟩
    · have HFA:Hid (v.ms.all Zy=true):=by
        have:v.ms.all Zy=true:=by
         rw [List.all_eq_true];intro m hm;exact Qa HA m (by rw [List.take_of_length_le (by omega)];exact hm)
        exact this
      go_wp2_with fail
      go_ret
      exact⟨by rw [Qa HFA];rfl,(Qa M).kept⟩
 all_goals
   go_wp2_with fail
   go_ret
   exact⟨rfl,(Qa M).kept⟩
theorem rmay50 (v:Vw) (w:World) (hv:v.ms.length=8):Calls Tryz.prog 50 #[Qd (vwC v)] w fun e w'=>e= .returned (.bool v.may)∧Kept [] w w':=by
 by_cases hf:v=fv
 · have:v.may=true:=by subst hf;rfl
   rw [this];exact rmay_f_F.1 v w hv hf
 have HE:decide (v=fv)=false:=by simpa using hf
 by_cases h1:v.nu<1
 · have:v.may=false:=by
    unfold Vw.may;split
    · exact HE
    · rw [decide_eq_false (by omega)];rfl
   rw [this];exact rmay_f_F.2.2.2.1 v w hv HE h1
 have hn:¬v.nu=0:=by omega
 unfold Vw.may;rw [if_neg hn];by_cases h2:4611686018427387904<v.nu
 · rw [decide_eq_false (by omega),Bool.false_and];exact rmay_f_F.2.2.2.2.1 v w hv HE (by omega) h2
 rw [decide_eq_true (show 1≤v.nu∧v.nu≤4611686018427387904 by omega),Bool.true_and];by_cases h3:v.fd<0
 · rw [Vw.isIn,show isNo v.fd=false by simp [isNo];omega,Bool.false_and,Bool.false_and];exact rmay_f_F.2.2.2.2.2.1 v w hv HE (by omega) (by omega) h3
 by_cases h4:8≤v.fd
 · rw [Vw.isIn,show isNo v.fd=false by simp [isNo];omega,Bool.false_and,Bool.false_and];exact rmay_f_F.2.2.2.2.2.2 v w hv HE (by omega) (by omega) (by omega) h4
 rw [Vw.isIn,show isNo v.fd=true by simp [isNo];omega,Bool.true_and];cases hin:(v.mem v.fd).1 with
 | false=>exact rmay_f_F.2.1 v w hv HE (by omega) (by omega) (by omega) (by omega) hin
 | true=>rw [Bool.true_and];exact rmay_f_F.2.2.1 v w hv HE (by omega) (by omega) (by omega) (by omega) hin
end Vi
end Go.Proofs.YtcfflbafclmheaaGreatDoor
