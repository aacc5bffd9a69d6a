/-
  Texts of the walks of member, shortened.
-/
import Derived.Test.YtcfflbafclmheaaGreatDoorDax
set_option maxRecDepth 100000
set_option maxHeartbeats 100000000
set_option linter.unusedSimpArgs false
namespace Go.Proofs.YtcfflbafclmheaaGreatDoor
open Go.RowKit
open Le (Mm Qh Qo)
theorem res39 (w:World) (z:Nat) (vs:List Value) (b:Bool) (e:Int) (tmps:Array Value) (h4:tmps[10]?.getD undef=P0 z) (h5:tmps[11]?.getD undef= .bool b) (h6:tmps[12]?.getD undef= .int .i64 e) (hl:vs.length=19) (hb:Blk w z 29 vs):(results Tryz.f39 tmps).run Tryz.prog w= .ok (.tuple #[Qd vs,.bool b,.int .i64 e]) w:=by
 have:=Zq Vi.Qn hl hb;simp [results,Tryz.results39,h4,h5,h6,this,asAddr]
set_option linter.unusedVariables false in
theorem rout_1a_F:(∀(r sg eg:Nat) (D:Dv.Dev) (J:Ar.Job) (ep:Int) (w:World) (h:Dv.Rv w r sg eg D) (n q:Int) (h1:decide (n<0)=true),Calls Tryz.prog 39 #[P0 r,Qd (Ar.Qf J),.int .i64 n,.int .i64 ep,.int .i64 q] w fun x w'=>x= .returned (.tuple #[Qd (Vi.vwC Vi.zv),.bool false,.int .i64 2])∧Dv.Rv w' r sg eg D∧Kept [r,sg,eg] w w')∧(∀(r sg eg:Nat) (D:Dv.Dev) (J:Ar.Job) (ep:Int) (w:World) (h:Dv.Rv w r sg eg D) (n q:Int) (h1:decide (n<0)=false) (h2:decide (J.n≤n)=true),Calls Tryz.prog 39 #[P0 r,Qd (Ar.Qf J),.int .i64 n,.int .i64 ep,.int .i64 q] w fun x w'=>x= .returned (.tuple #[Qd (Vi.vwC Vi.zv),.bool false,.int .i64 2])∧Dv.Rv w' r sg eg D∧Kept [r,sg,eg] w w')∧(∀(r sg eg:Nat) (D:Dv.Dev) (J:Ar.Job) (ep:Int) (w:World) (h:Dv.Rv w r sg eg D) (n q:Int) (h1:decide (n<0)=false) (h2:decide (J.n≤n)=false) (h3:decide (q<0)=true),Calls Tryz.prog 39 #[P0 r,Qd (Ar.Qf J),.int .i64 n,.int .i64 ep,.int .i64 q] w fun x w'=>x= .returned (.tuple #[Qd (Vi.vwC Vi.zv),.bool false,.int .i64 2])∧Dv.Rv w' r sg eg D∧Kept [r,sg,eg] w w')∧(∀(r sg eg:Nat) (D:Dv.Dev) (J:Ar.Job) (ep:Int) (w:World) (h:Dv.Rv w r sg eg D) (n q:Int) (h1:decide (n<0)=false) (h2:decide (J.n≤n)=false) (h3:decide (q<0)=false) (h4:decide (J.n≤q)=true),Calls Tryz.prog 39 #[P0 r,Qd (Ar.Qf J),.int .i64 n,.int .i64 ep,.int .i64 q] w fun x w'=>x= .returned (.tuple #[Qd (Vi.vwC Vi.zv),.bool false,.int .i64 2])∧Dv.Rv w' r sg eg D∧Kept [r,sg,eg] w w')∧(∀(r sg eg:Nat) (D:Dv.Dev) (J:Ar.Job) (ep:Int) (w:World) (h:Dv.Rv w r sg eg D) (n q:Int) (_h1:decide (n<0)=false) (_h2:decide (J.n≤n)=false) (h3:decide (q<0)=false) (h4:decide (J.n≤q)=false) (h5:n=q),Calls Tryz.prog 39 #[P0 r,Qd (Ar.Qf J),.int .i64 n,.int .i64 ep,.int .i64 q] w fun x w'=>x= .returned (.tuple #[Qd (Vi.vwC Vi.zv),.bool false,.int .i64 2])∧Dv.Rv w' r sg eg D∧Kept [r,sg,eg] w w')∧(∀(r sg eg:Nat) (D:Dv.Dev) (J:Ar.Job) (ep:Int) (w:World) (h:Dv.Rv w r sg eg D) (k q:Nat) (e1:Int) (h1:decide ((k:Int)<0)=false) (h3:decide ((q:Int)<0)=false) (h7:((k:Int) == (q:Int))=false) (h2:decide (J.n≤(k:Int))=false) (h4:decide (J.n≤(q:Int))=false) (PW:Hid (∀W,Dv.Rv W r sg eg D→Calls Tryz.prog 96 #[P0 r,Qd (Ar.Qf J),.int .i64 k,.int .i64 ep] W fun e w'=>e= .returned (.int .i64 e1)∧Kept [] W w')) (he:¬e1=0),Calls Tryz.prog 39 #[P0 r,Qd (Ar.Qf J),.int .i64 k,.int .i64 ep,.int .i64 q] w fun x w'=>x= .returned (.tuple #[Qd (Vi.vwC Vi.zv),.bool false,.int .i64 e1])∧Dv.Rv w' r sg eg D∧Kept [r,sg,eg] w w')∧(∀(r sg eg:Nat) (D:Dv.Dev) (J:Ar.Job) (ep:Int) (w:World) (h:Dv.Rv w r sg eg D) (k q:Nat) (e2:Int) (v:Vi.Vw) (h1:decide ((k:Int)<0)=false) (h3:decide ((q:Int)<0)=false) (h7:((k:Int) == (q:Int))=false) (h2:decide (J.n≤(k:Int))=false) (h4:decide (J.n≤(q:Int))=false) (PW:Hid (∀W,Dv.Rv W r sg eg D→Calls Tryz.prog 96 #[P0 r,Qd (Ar.Qf J),.int .i64 k,.int .i64 ep] W fun e w'=>e= .returned (.int .i64 0)∧Kept [] W w')) (PV:Hid (∀W,Dv.Rv W r sg eg D→Calls Tryz.prog 14 #[P0 r,Qd (Ar.Qf J)] W fun x w'=>x= .returned (.tuple #[Qd (Vi.vwC v),.int .i64 e2])∧Kept [] W w')) (HVL:Hid ((Vi.vwC v).length=19)) (he:¬e2=0),Calls Tryz.prog 39 #[P0 r,Qd (Ar.Qf J),.int .i64 k,.int .i64 ep,.int .i64 q] w fun x w'=>x= .returned (.tuple #[Qd (Vi.vwC Vi.zv),.bool false,.int .i64 e2])∧Dv.Rv w' r sg eg D∧Kept [r,sg,eg] w w')∧(∀(r sg eg:Nat) (D:Dv.Dev) (J:Ar.Job) (ep:Int) (w:World) (h:Dv.Rv w r sg eg D) (k q:Nat) (v:Vi.Vw) (h1:decide ((k:Int)<0)=false) (h3:decide ((q:Int)<0)=false) (h7:((k:Int) == (q:Int))=false) (h2:decide (J.n≤(k:Int))=false) (h4:decide (J.n≤(q:Int))=false) (PW:Hid (∀W,Dv.Rv W r sg eg D→Calls Tryz.prog 96 #[P0 r,Qd (Ar.Qf J),.int .i64 k,.int .i64 ep] W fun e w'=>e= .returned (.int .i64 0)∧Kept [] W w')) (PV:Hid (∀W,Dv.Rv W r sg eg D→Calls Tryz.prog 14 #[P0 r,Qd (Ar.Qf J)] W fun x w'=>x= .returned (.tuple #[Qd (Vi.vwC v),.int .i64 0])∧Kept [] W w')) (HVL:Hid ((Vi.vwC v).length=19)) (mi qi:Bool) (me qe:Int) (X0:Hid ((Vi.vwC v)[3+k*2]?=some (.bool mi))) (X1:Hid ((Vi.vwC v)[3+k*2+1]?=some (.int .i64 me))) (Y0:Hid ((Vi.vwC v)[3+q*2]?=some (.bool qi))) (Y1:Hid ((Vi.vwC v)[3+q*2+1]?=some (.int .i64 qe))) (hk8:(k:Int)<8) (hq8:(q:Int)<8) (hmi:mi=true) (hme:me=ep) (hqi:qi=true) (HNU:Hid (v.nu=4611686018427387904)),Calls Tryz.prog 39 #[P0 r,Qd (Ar.Qf J),.int .i64 k,.int .i64 ep,.int .i64 q] w fun x w'=>x= .returned (.tuple #[Qd (Vi.vwC Vi.zv),.bool false,.int .i64 5])∧Dv.Rv w' r sg eg D∧Kept [r,sg,eg] w w')∧(∀(r sg eg:Nat) (D:Dv.Dev) (J:Ar.Job) (ep:Int) (w:World) (h:Dv.Rv w r sg eg D) (k q:Nat) (v u y:Vi.Vw) (yb:Bool) (ye fe:Int) (D1 D2:Dv.Dev) (h1:decide ((k:Int)<0)=false) (h3:decide ((q:Int)<0)=false) (h7:((k:Int) == (q:Int))=false) (h2:decide (J.n≤(k:Int))=false) (h4:decide (J.n≤(q:Int))=false) (PW:Hid (∀W,Dv.Rv W r sg eg D→Calls Tryz.prog 96 #[P0 r,Qd (Ar.Qf J),.int .i64 k,.int .i64 ep] W fun e w'=>e= .returned (.int .i64 0)∧Kept [] W w')) (PV:Hid (∀W,Dv.Rv W r sg eg D→Calls Tryz.prog 14 #[P0 r,Qd (Ar.Qf J)] W fun x w'=>x= .returned (.tuple #[Qd (Vi.vwC v),.int .i64 0])∧Kept [] W w')) (HVL:Hid ((Vi.vwC v).length=19)) (PS:Hid (∀W,Dv.Rv W r sg eg D1→Calls Tryz.prog 97 #[P0 r,Qd (Ar.Qf J),.int .i64 k,.int .i64 ep,Qd (Vi.vwC v),Qd (Vi.vwC u)] W fun x w'=>x= .returned (.tuple #[Qd (Vi.vwC y),.bool yb,.int .i64 ye])∧Dv.Rv w' r sg eg D2∧Kept [r,sg,eg] W w')) (HYL:Hid ((Vi.vwC y).length=19)) (mi qi:Bool) (me qe:Int) (X0:Hid ((Vi.vwC v)[3+k*2]?=some (.bool mi))) (X1:Hid ((Vi.vwC v)[3+k*2+1]?=some (.int .i64 me))) (Y0:Hid ((Vi.vwC v)[3+q*2]?=some (.bool qi))) (Y1:Hid ((Vi.vwC v)[3+q*2+1]?=some (.int .i64 qe))) (hk8:(k:Int)<8) (hq8:(q:Int)<8) (hmi:mi=true) (hme:me=ep) (hqi:qi=true) (PF:Hid (∀W,Dv.Rv W r sg eg D→Calls Tryz.prog 98 #[P0 r,.int .i64 k,.int .i64 ep,.int .i64 q,.int .i64 qe] W fun x w'=>x= .returned (.int .i64 fe)∧Dv.Rv w' r sg eg D1∧Kept [r,eg] W w')) (hnu:¬v.nu=4611686018427387904) (hnr:0≤v.nu∧v.nu≤4611686018427387904) (HQ8:Hid (q<8)) (HL8:Hid (v.ms.length=8)) (HU:Hid ((⟨v.nu+1,false,(k:Int),v.ms.set q (false,0)⟩:Vi.Vw)=u)) (HUL:Hid ((Vi.vwC u).length=19)),Calls Tryz.prog 39 #[P0 r,Qd (Ar.Qf J),.int .i64 k,.int .i64 ep,.int .i64 q] w fun x w'=>x= .returned (.tuple #[Qd (Vi.vwC y),.bool yb,.int .i64 ye])∧Dv.Rv w' r sg eg D2∧Kept [r,sg,eg] w w')∧(∀(r sg eg:Nat) (D:Dv.Dev) (J:Ar.Job) (ep:Int) (w:World) (h:Dv.Rv w r sg eg D) (k q:Nat) (v:Vi.Vw) (h1:decide ((k:Int)<0)=false) (h3:decide ((q:Int)<0)=false) (h7:((k:Int) == (q:Int))=false) (h2:decide (J.n≤(k:Int))=false) (h4:decide (J.n≤(q:Int))=false) (PW:Hid (∀W,Dv.Rv W r sg eg D→Calls Tryz.prog 96 #[P0 r,Qd (Ar.Qf J),.int .i64 k,.int .i64 ep] W fun e w'=>e= .returned (.int .i64 0)∧Kept [] W w')) (PV:Hid (∀W,Dv.Rv W r sg eg D→Calls Tryz.prog 14 #[P0 r,Qd (Ar.Qf J)] W fun x w'=>x= .returned (.tuple #[Qd (Vi.vwC v),.int .i64 0])∧Kept [] W w')) (HVL:Hid ((Vi.vwC v).length=19)) (mi qi:Bool) (me qe:Int) (X0:Hid ((Vi.vwC v)[3+k*2]?=some (.bool mi))) (X1:Hid ((Vi.vwC v)[3+k*2+1]?=some (.int .i64 me))) (Y0:Hid ((Vi.vwC v)[3+q*2]?=some (.bool qi))) (Y1:Hid ((Vi.vwC v)[3+q*2+1]?=some (.int .i64 qe))) (hk8:(k:Int)<8) (_hq8:(q:Int)<8) (hmi:mi=false),Calls Tryz.prog 39 #[P0 r,Qd (Ar.Qf J),.int .i64 k,.int .i64 ep,.int .i64 q] w fun x w'=>x= .returned (.tuple #[Qd (Vi.vwC Vi.zv),.bool false,.int .i64 6])∧Dv.Rv w' r sg eg D∧Kept [r,sg,eg] w w')∧(∀(r sg eg:Nat) (D:Dv.Dev) (J:Ar.Job) (ep:Int) (w:World) (h:Dv.Rv w r sg eg D) (k q:Nat) (v:Vi.Vw) (h1:decide ((k:Int)<0)=false) (h3:decide ((q:Int)<0)=false) (h7:((k:Int) == (q:Int))=false) (h2:decide (J.n≤(k:Int))=false) (h4:decide (J.n≤(q:Int))=false) (PW:Hid (∀W,Dv.Rv W r sg eg D→Calls Tryz.prog 96 #[P0 r,Qd (Ar.Qf J),.int .i64 k,.int .i64 ep] W fun e w'=>e= .returned (.int .i64 0)∧Kept [] W w')) (PV:Hid (∀W,Dv.Rv W r sg eg D→Calls Tryz.prog 14 #[P0 r,Qd (Ar.Qf J)] W fun x w'=>x= .returned (.tuple #[Qd (Vi.vwC v),.int .i64 0])∧Kept [] W w')) (HVL:Hid ((Vi.vwC v).length=19)) (mi qi:Bool) (me qe:Int) (X0:Hid ((Vi.vwC v)[3+k*2]?=some (.bool mi))) (X1:Hid ((Vi.vwC v)[3+k*2+1]?=some (.int .i64 me))) (Y0:Hid ((Vi.vwC v)[3+q*2]?=some (.bool qi))) (Y1:Hid ((Vi.vwC v)[3+q*2+1]?=some (.int .i64 qe))) (hk8:(k:Int)<8) (_hq8:(q:Int)<8) (hmi:mi=true) (hme:¬me=ep),Calls Tryz.prog 39 #[P0 r,Qd (Ar.Qf J),.int .i64 k,.int .i64 ep,.int .i64 q] w fun x w'=>x= .returned (.tuple #[Qd (Vi.vwC Vi.zv),.bool false,.int .i64 6])∧Dv.Rv w' r sg eg D∧Kept [r,sg,eg] w w')∧(∀(r sg eg:Nat) (D:Dv.Dev) (J:Ar.Job) (ep:Int) (w:World) (h:Dv.Rv w r sg eg D) (k q:Nat) (v:Vi.Vw) (h1:decide ((k:Int)<0)=false) (h3:decide ((q:Int)<0)=false) (h7:((k:Int) == (q:Int))=false) (h2:decide (J.n≤(k:Int))=false) (h4:decide (J.n≤(q:Int))=false) (PW:Hid (∀W,Dv.Rv W r sg eg D→Calls Tryz.prog 96 #[P0 r,Qd (Ar.Qf J),.int .i64 k,.int .i64 ep] W fun e w'=>e= .returned (.int .i64 0)∧Kept [] W w')) (PV:Hid (∀W,Dv.Rv W r sg eg D→Calls Tryz.prog 14 #[P0 r,Qd (Ar.Qf J)] W fun x w'=>x= .returned (.tuple #[Qd (Vi.vwC v),.int .i64 0])∧Kept [] W w')) (HVL:Hid ((Vi.vwC v).length=19)) (mi qi:Bool) (me qe:Int) (X0:Hid ((Vi.vwC v)[3+k*2]?=some (.bool mi))) (X1:Hid ((Vi.vwC v)[3+k*2+1]?=some (.int .i64 me))) (Y0:Hid ((Vi.vwC v)[3+q*2]?=some (.bool qi))) (Y1:Hid ((Vi.vwC v)[3+q*2+1]?=some (.int .i64 qe))) (hk8:(k:Int)<8) (hq8:(q:Int)<8) (hmi:mi=true) (hme:me=ep) (hqi:qi=false),Calls Tryz.prog 39 #[P0 r,Qd (Ar.Qf J),.int .i64 k,.int .i64 ep,.int .i64 q] w fun x w'=>x= .returned (.tuple #[Qd (Vi.vwC Vi.zv),.bool false,.int .i64 6])∧Dv.Rv w' r sg eg D∧Kept [r,sg,eg] w w'):=by
 refine⟨fun r sg eg D J ep w h n q h1=> ?_,fun r sg eg D J ep w h n q h1 h2=> ?_,fun r sg eg D J ep w h n q h1 h2 h3=> ?_,fun r sg eg D J ep w h n q h1 h2 h3 h4=> ?_,fun r sg eg D J ep w h n q _h1 _h2 h3 h4 h5=> ?_,fun r sg eg D J ep w h k q e1 h1 h3 h7 h2 h4 PW he=> ?_,fun r sg eg D J ep w h k q e2 v h1 h3 h7 h2 h4 PW PV HVL he=> ?_,fun r sg eg D J ep w h k q v h1 h3 h7 h2 h4 PW PV HVL mi qi me qe X0 X1 Y0 Y1 hk8 hq8 hmi hme hqi HNU=> ?_,fun r sg eg D J ep w h k q v u y yb ye fe D1 D2 h1 h3 h7 h2 h4 PW PV HVL PS HYL mi qi me qe X0 X1 Y0 Y1 hk8 hq8 hmi hme hqi PF hnu hnr HQ8 HL8 HU HUL=> ?_,fun r sg eg D J ep w h k q v h1 h3 h7 h2 h4 PW PV HVL mi qi me qe X0 X1 Y0 Y1 hk8 _hq8 hmi=> ?_,fun r sg eg D J ep w h k q v h1 h3 h7 h2 h4 PW PV HVL mi qi me qe X0 X1 Y0 Y1 hk8 _hq8 hmi hme=> ?_,fun r sg eg D J ep w h k q v h1 h3 h7 h2 h4 PW PV HVL mi qi me qe X0 X1 Y0 Y1 hk8 hq8 hmi hme hqi=> ?_⟩;have M:Hid (Ph r sg eg D w w []):=hide (Ph.init h);clear h
 rotate_left
 have M:Hid (Ph r sg eg D w w []):=hide (Ph.init h);clear h
 rotate_left
 have M:Hid (Ph r sg eg D w w []):=hide (Ph.init h);clear h
 rotate_left
 have M:Hid (Ph r sg eg D w w []):=hide (Ph.init h);clear h
 rotate_left
 have M:Hid (Ph r sg eg D w w []):=hide (Ph.init h);clear h
 rotate_left
 have M:Hid (Ph r sg eg D w w []):=hide (Ph.init h);clear h
 rotate_left
 have M:Hid (Ph r sg eg D w w []):=hide (Ph.init h);clear h
 rotate_left
 have M:Hid (Ph r sg eg D w w []):=hide (Ph.init h);clear h;subst hmi;subst hqi
 rotate_left
 have M:Hid (Ph r sg eg D w w []):=hide (Ph.init h);clear h;subst hmi;subst hqi;obtain⟨hn0,hn1⟩:=hnr
 rotate_left
 have M:Hid (Ph r sg eg D w w []):=hide (Ph.init h);clear h;subst hmi
 rotate_left
 have M:Hid (Ph r sg eg D w w []):=hide (Ph.init h);clear h;subst hmi
 rotate_left
 have M:Hid (Ph r sg eg D w w []):=hide (Ph.init h);clear h;subst hmi;subst hqi
 rotate_left
 all_goals
   go_enter Tryz.func39,Tryz.ntmps39
   go_wp2_with (first |(refine Qp rfl (.tmp 1) rfl (Ar.Qf J) rfl ?_;intro W1 b1 e1 B1 K1;replace M:=hide ((Qa M).new e1 B1 K1);clear e1 B1 K1;refine Stp.go ?_))
   constructor
   go_wp2_with (first |(refine Qv (Vi.vwC Vi.zv) Vi.QE 10 rfl rfl rfl ?_;intro W2 b2 e2 B2 K2;replace M:=hide ((Qa M).new e2 B2 K2);clear e2 B2 K2;have f0:=Qb ((Qa M).at 0 _ rfl) 0 (.int .i64 J.n) rfl;refine Stp.go ?_))
   constructor
 · go_wp2_with (first |(refine QG (Vi.vwC Vi.zv) Vi.Zi rfl rfl ?_;refine Stp.go ?_))
   constructor
   go_wp2_with (first |(refine QQ Vi.Qn rfl (.tmp 10) (.tmp 39) rfl rfl b2 1 (Vi.vwC Vi.zv) rfl rfl rfl (Vi.Ql _) (Qa M) rfl rfl ?_;intro W3 N3;replace M:Hid (Ph r sg eg D w W3 [(b1,23,Ar.Qf J),(b2,29,Vi.vwC Vi.zv)]):=hide N3;clear N3;refine Stp.go ?_))
   constructor
   go_wp2_with fail
   refine bodyPost_ret (res39 _ b2 (Vi.vwC Vi.zv) false 2 _ rfl rfl rfl rfl ((Qa M).at 1 _ rfl)) rfl ?_;exact⟨rfl,(Qa M).rv,(Qa M).kept⟩
 · go_wp2_with (first |(refine QG (Vi.vwC Vi.zv) Vi.Zi rfl rfl ?_;refine Stp.go ?_))
   constructor
   go_wp2_with (first |(refine QQ Vi.Qn rfl (.tmp 10) (.tmp 39) rfl rfl b2 1 (Vi.vwC Vi.zv) rfl rfl rfl (Vi.Ql _) (Qa M) rfl rfl ?_;intro W3 N3;replace M:Hid (Ph r sg eg D w W3 [(b1,23,Ar.Qf J),(b2,29,Vi.vwC Vi.zv)]):=hide N3;clear N3;refine Stp.go ?_))
   constructor
   go_wp2_with fail
   refine bodyPost_ret (res39 _ b2 (Vi.vwC Vi.zv) false 2 _ rfl rfl rfl rfl ((Qa M).at 1 _ rfl)) rfl ?_;exact⟨rfl,(Qa M).rv,(Qa M).kept⟩
 · go_wp2_with (first |(refine QG (Vi.vwC Vi.zv) Vi.Zi rfl rfl ?_;refine Stp.go ?_))
   constructor
   go_wp2_with (first |(refine QQ Vi.Qn rfl (.tmp 10) (.tmp 39) rfl rfl b2 1 (Vi.vwC Vi.zv) rfl rfl rfl (Vi.Ql _) (Qa M) rfl rfl ?_;intro W3 N3;replace M:Hid (Ph r sg eg D w W3 [(b1,23,Ar.Qf J),(b2,29,Vi.vwC Vi.zv)]):=hide N3;clear N3;refine Stp.go ?_))
   constructor
   go_wp2_with fail
   refine bodyPost_ret (res39 _ b2 (Vi.vwC Vi.zv) false 2 _ rfl rfl rfl rfl ((Qa M).at 1 _ rfl)) rfl ?_;exact⟨rfl,(Qa M).rv,(Qa M).kept⟩
 · go_wp2_with (first |(refine QG (Vi.vwC Vi.zv) Vi.Zi rfl rfl ?_;refine Stp.go ?_))
   constructor
   go_wp2_with (first |(refine QQ Vi.Qn rfl (.tmp 10) (.tmp 39) rfl rfl b2 1 (Vi.vwC Vi.zv) rfl rfl rfl (Vi.Ql _) (Qa M) rfl rfl ?_;intro W3 N3;replace M:Hid (Ph r sg eg D w W3 [(b1,23,Ar.Qf J),(b2,29,Vi.vwC Vi.zv)]):=hide N3;clear N3;refine Stp.go ?_))
   constructor
   go_wp2_with fail
   refine bodyPost_ret (res39 _ b2 (Vi.vwC Vi.zv) false 2 _ rfl rfl rfl rfl ((Qa M).at 1 _ rfl)) rfl ?_;exact⟨rfl,(Qa M).rv,(Qa M).kept⟩
 · go_wp2_with (first |(refine QG (Vi.vwC Vi.zv) Vi.Zi rfl rfl ?_;refine Stp.go ?_))
   constructor
   go_wp2_with (first |(refine QQ Vi.Qn rfl (.tmp 10) (.tmp 39) rfl rfl b2 1 (Vi.vwC Vi.zv) rfl rfl rfl (Vi.Ql _) (Qa M) rfl rfl ?_;intro W3 N3;replace M:Hid (Ph r sg eg D w W3 [(b1,23,Ar.Qf J),(b2,29,Vi.vwC Vi.zv)]):=hide N3;clear N3;refine Stp.go ?_))
   constructor
   go_wp2_with fail
   refine bodyPost_ret (res39 _ b2 (Vi.vwC Vi.zv) false 2 _ rfl rfl rfl rfl ((Qa M).at 1 _ rfl)) rfl ?_;exact⟨rfl,(Qa M).rv,(Qa M).kept⟩
 all_goals
   go_wp2_with (first |(refine Qg Zv rfl (.tmp 6) rfl b1 0 rfl (Ar.Qf J) rfl ((Qa M).at 0 _ rfl).range ?_;refine Stp.go ?_))
   constructor
   go_wp2_with (first |(go_at_call 96;refine(Qa PW _ (Qa M).rv).mono ?_;rintro e W3 ⟨rfl,K3⟩;replace M:=hide ((Qa M).step K3);clear K3;clear f0;refine Stp.go ?_))
   constructor
 · go_wp2_with (first |(refine QG (Vi.vwC Vi.zv) Vi.Zi rfl rfl ?_;refine Stp.go ?_))
   constructor
   go_wp2_with (first |(refine QQ Vi.Qn rfl (.tmp 10) (.tmp 47) rfl rfl b2 1 (Vi.vwC Vi.zv) rfl rfl rfl (Vi.Ql _) (Qa M) rfl rfl ?_;intro W4 N4;replace M:Hid (Ph r sg eg D w W4 [(b1,23,Ar.Qf J),(b2,29,Vi.vwC Vi.zv)]):=hide N4;clear N4;refine Stp.go ?_))
   constructor
   go_wp2_with fail
   refine bodyPost_ret (res39 _ b2 (Vi.vwC Vi.zv) false e1 _ rfl rfl rfl rfl ((Qa M).at 1 _ rfl)) rfl ?_;exact⟨rfl,(Qa M).rv,(Qa M).kept⟩
 all_goals
   go_wp2_with (first |(refine Qg Zv rfl (.tmp 6) rfl b1 0 rfl (Ar.Qf J) rfl ((Qa M).at 0 _ rfl).range ?_;refine Stp.go ?_))
   constructor
   go_wp2_with (first |(go_at_call 14;refine(Qa PV _ (Qa M).rv).mono ?_;rintro e W4 ⟨rfl,K4⟩;replace M:=hide ((Qa M).step K4);clear K4;refine Stp.go ?_))
   constructor
 · go_wp2_with (first |(refine QM Vi.Qn (Vi.vwC Vi.zv) rfl Vi.QE 14 rfl rfl rfl (.tmp 53) rfl rfl rfl (Vi.vwC v) (Qa HVL) (Vi.Ql _) (by kernel_rfl) (by kernel_rfl) ?_;intro W5 b5 e5 B5 K5;replace M:=hide ((Qa M).new e5 B5 K5);clear e5 B5 K5;refine Stp.go ?_))
   constructor
   go_wp2_with (first |(refine QG (Vi.vwC Vi.zv) Vi.Zi rfl rfl ?_;refine Stp.go ?_))
   constructor
   go_wp2_with (first |(refine QQ Vi.Qn rfl (.tmp 10) (.tmp 57) rfl rfl b2 1 (Vi.vwC Vi.zv) rfl rfl rfl (Vi.Ql _) (Qa M) rfl rfl ?_;intro W6 N6;replace M:Hid (Ph r sg eg D w W6 [(b1,23,Ar.Qf J),(b2,29,Vi.vwC Vi.zv),(b5,29,Vi.vwC v)]):=hide N6;clear N6;refine Stp.go ?_))
   constructor
   go_wp2_with fail
   refine bodyPost_ret (res39 _ b2 (Vi.vwC Vi.zv) false e2 _ rfl rfl rfl rfl ((Qa M).at 1 _ rfl)) rfl ?_;exact⟨rfl,(Qa M).rv,(Qa M).kept⟩
 · go_wp2_with (first |(refine QM Vi.Qn (Vi.vwC Vi.zv) rfl Vi.QE 14 rfl rfl rfl (.tmp 53) rfl rfl rfl (Vi.vwC v) (Qa HVL) (Vi.Ql _) (by kernel_rfl) (by kernel_rfl) ?_;intro W5 b5 e5 B5 K5;replace M:=hide ((Qa M).new e5 B5 K5);clear e5 B5 K5;have c0:=Qb ((Qa M).at 2 _ rfl) 0 (.int .i64 v.nu) rfl;have c1:=Qb ((Qa M).at 2 _ rfl) _ _ (Qa X0);have c2:=Qb ((Qa M).at 2 _ rfl) _ _ (Qa X1);have c3:=Qb ((Qa M).at 2 _ rfl) _ _ (Qa Y0);have c4:=Qb ((Qa M).at 2 _ rfl) _ _ (Qa Y1);rw [Qa HNU] at c0;refine Stp.go ?_))
   constructor
   go_wp2_with (first |(refine QG (Vi.vwC Vi.zv) Vi.Zi rfl rfl ?_;refine Stp.go ?_))
   constructor
   go_wp2_with (first |(refine QQ Vi.Qn rfl (.tmp 10) (.tmp 86) rfl rfl b2 1 (Vi.vwC Vi.zv) rfl rfl rfl (Vi.Ql _) (Qa M) rfl rfl ?_;intro W6 N6;replace M:Hid (Ph r sg eg D w W6 [(b1,23,Ar.Qf J),(b2,29,Vi.vwC Vi.zv),(b5,29,Vi.vwC v)]):=hide N6;clear N6;refine Stp.go ?_))
   constructor
   go_wp2_with fail
   refine bodyPost_ret (res39 _ b2 (Vi.vwC Vi.zv) false 5 _ rfl rfl rfl rfl ((Qa M).at 1 _ rfl)) rfl ?_;exact⟨rfl,(Qa M).rv,(Qa M).kept⟩
 all_goals
   go_wp2_with (first |(refine QM Vi.Qn (Vi.vwC Vi.zv) rfl Vi.QE 14 rfl rfl rfl (.tmp 53) rfl rfl rfl (Vi.vwC v) (Qa HVL) (Vi.Ql _) (by kernel_rfl) (by kernel_rfl) ?_;intro W5 b5 e5 B5 K5;replace M:=hide ((Qa M).new e5 B5 K5);clear e5 B5 K5;have c0:=Qb ((Qa M).at 2 _ rfl) 0 (.int .i64 v.nu) rfl;have c1:=Qb ((Qa M).at 2 _ rfl) _ _ (Qa X0);have c2:=Qb ((Qa M).at 2 _ rfl) _ _ (Qa X1);have c3:=Qb ((Qa M).at 2 _ rfl) _ _ (Qa Y0);have c4:=Qb ((Qa M).at 2 _ rfl) _ _ (Qa Y1);refine Stp.go ?_))
   constructor
 · go_wp2_with (first |(go_at_call 98;refine(Qa PF _ (Qa M).rv).mono ?_;rintro e W6 ⟨rfl,R6,K6⟩;replace M:Hid (Ph r sg eg D1 w W6 [(b1,23,Ar.Qf J),(b2,29,Vi.vwC Vi.zv),(b5,29,Vi.vwC v)]):=hide ((Qa M).dev K6 (by simp) R6);clear K6 R6;refine Stp.go ?_))
   constructor
   go_wp2_with (first |(refine Qg Vi.Qn rfl (.tmp 14) rfl b5 0 rfl (Vi.vwC v) (Qa HVL) ((Qa M).at 2 _ rfl).range ?_;refine Stp.go ?_))
   constructor
   go_wp2_with (first |(refine QM Vi.Qn (Vi.vwC Vi.zv) rfl Vi.QE 15 rfl rfl rfl (.tmp 97) rfl rfl rfl (Vi.vwC v) (Qa HVL) (Vi.Ql _) (by kernel_rfl) (by kernel_rfl) ?_;intro W7 b7 e7 B7 K7;replace M:=hide ((Qa M).new e7 B7 K7);clear e7 B7 K7;clear c0 c1 c2 c3 c4;have c0:=Qb ((Qa M).at 2 _ rfl) 0 (.int .i64 v.nu) rfl;refine Stp.go ?_))
   constructor
   go_wp2_with (first |(refine wpStoreP1 Le.size2 rfl (.tmp 101) (.tmp 100) rfl rfl b7 0 3 (.int .i64 (v.nu+1)) ⟨rfl,rfl⟩ rfl rfl (Qa M) rfl (by simp [Vi.vwC]) ?_;intro W8 N8;replace M:Hid (Ph r sg eg D1 w W8 [(b1,23,Ar.Qf J),(b2,29,Vi.vwC Vi.zv),(b5,29,Vi.vwC v),(b7,29,Vi.vwC ⟨v.nu+1,v.op,v.fd,v.ms⟩)]):=hide N8;clear N8;clear c0;refine Stp.go ?_))
   constructor
   go_wp2_with (first |(refine wpStoreP1 Le.size4 rfl (.tmp 102) (.const (.bool false)) rfl rfl b7 1 3 (.bool false) ⟨rfl,rfl⟩ rfl rfl (Qa M) rfl (by simp [Vi.vwC]) ?_;intro W9 N9;replace M:Hid (Ph r sg eg D1 w W9 [(b1,23,Ar.Qf J),(b2,29,Vi.vwC Vi.zv),(b5,29,Vi.vwC v),(b7,29,Vi.vwC ⟨v.nu+1,false,v.fd,v.ms⟩)]):=hide N9;clear N9;refine Stp.go ?_))
   constructor
   go_wp2_with (first |(refine wpStoreP1 Le.size3 rfl (.tmp 104) (.tmp 103) rfl rfl b7 2 3 (.int .i64 k) ⟨rfl,rfl⟩ rfl rfl (Qa M) rfl (by simp [Vi.vwC]) ?_;intro W10 N10;replace M:Hid (Ph r sg eg D1 w W10 [(b1,23,Ar.Qf J),(b2,29,Vi.vwC Vi.zv),(b5,29,Vi.vwC v),(b7,29,Vi.vwC ⟨v.nu+1,false,k,v.ms⟩)]):=hide N10;clear N10;refine Stp.go ?_))
   constructor
   go_wp2_with (first |(refine QG (Vi.QD (false,0)) Vi.build23 rfl rfl ?_;refine Stp.go ?_))
   constructor
   go_wp2_with (first |(refine wpStoreMemP rfl (.tmp 108) (.tmp 106) rfl rfl b7 q 3 ⟨v.nu+1,false,k,v.ms⟩ (false,0) rfl rfl (Qa M) rfl (Qa HQ8) (Qa HL8) ?_;intro W11 N11;replace M:Hid (Ph r sg eg D1 w W11 [(b1,23,Ar.Qf J),(b2,29,Vi.vwC Vi.zv),(b5,29,Vi.vwC v),(b7,29,Vi.vwC u)]):=(by have h9:=N11;rw [show (⟨v.nu+1,false,(k:Int),v.ms.set q (false,0)⟩:Vi.Vw)=u from Qa HU] at h9;exact h9);clear N11;refine Stp.go ?_))
   constructor
   go_wp2_with (first |(refine Qg Zv rfl (.tmp 6) rfl b1 0 rfl (Ar.Qf J) rfl ((Qa M).at 0 _ rfl).range ?_;refine Stp.go ?_))
   constructor
   go_wp2_with (first |(refine Qg Vi.Qn rfl (.tmp 14) rfl b5 0 rfl (Vi.vwC v) (Qa HVL) ((Qa M).at 2 _ rfl).range ?_;refine Stp.go ?_))
   constructor
   go_wp2_with (first |(refine Qg Vi.Qn rfl (.tmp 15) rfl b7 0 rfl (Vi.vwC u) (Qa HUL) ((Qa M).at 3 _ rfl).range ?_;refine Stp.go ?_))
   constructor
   go_wp2_with (first |(go_at_call 97;refine(Qa PS _ (Qa M).rv).mono ?_;rintro e W12 ⟨rfl,R12,K12⟩;replace M:Hid (Ph r sg eg D2 w W12 [(b1,23,Ar.Qf J),(b2,29,Vi.vwC Vi.zv),(b5,29,Vi.vwC v),(b7,29,Vi.vwC u)]):=hide ((Qa M).dev K12 (by simp) R12);clear K12 R12;refine Stp.go ?_))
   constructor
   go_wp2_with (first |(refine QQ Vi.Qn rfl (.tmp 10) (.tmp 116) rfl rfl b2 1 (Vi.vwC y) rfl rfl (Qa HYL) (Vi.Ql _) (Qa M) rfl rfl ?_;intro W13 N13;replace M:Hid (Ph r sg eg D2 w W13 [(b1,23,Ar.Qf J),(b2,29,Vi.vwC y),(b5,29,Vi.vwC v),(b7,29,Vi.vwC u)]):=hide N13;clear N13;refine Stp.go ?_))
   constructor
   go_wp2_with fail
   refine bodyPost_ret (res39 _ b2 (Vi.vwC y) yb ye _ rfl rfl rfl (Qa HYL) ((Qa M).at 1 _ rfl)) rfl ?_;exact⟨rfl,(Qa M).rv,(Qa M).kept⟩
 all_goals
   go_wp2_with (first |(refine QG (Vi.vwC Vi.zv) Vi.Zi rfl rfl ?_;refine Stp.go ?_))
   constructor
   go_wp2_with (first |(refine QQ Vi.Qn rfl (.tmp 10) (.tmp 82) rfl rfl b2 1 (Vi.vwC Vi.zv) rfl rfl rfl (Vi.Ql _) (Qa M) rfl rfl ?_;intro W6 N6;replace M:Hid (Ph r sg eg D w W6 [(b1,23,Ar.Qf J),(b2,29,Vi.vwC Vi.zv),(b5,29,Vi.vwC v)]):=hide N6;clear N6;refine Stp.go ?_))
   constructor
   go_wp2_with fail
   refine bodyPost_ret (res39 _ b2 (Vi.vwC Vi.zv) false 6 _ rfl rfl rfl rfl ((Qa M).at 1 _ rfl)) rfl ?_;exact⟨rfl,(Qa M).rv,(Qa M).kept⟩
def rout (D:Dv.Dev) (J:Ar.Job) (n ep q:Int):(Vi.Vw×Bool)×Int×Dv.Dev:=
 if n<0∨J.n≤n∨q<0∨J.n≤q∨n=q then ((Vi.zv,false),2,D) else
 if rwho D J n ep≠0 then ((Vi.zv,false),rwho D J n ep,D) else if (oV D).2≠0 then ((Vi.zv,false),(oV D).2,D)
 else if ¬(((oV D).1.mem n).1=true∧((oV D).1.mem n).2=ep∧((oV D).1.mem q).1=true) then ((Vi.zv,false),6,D)
 else if (oV D).1.nu=4611686018427387904 then ((Vi.zv,false),5,D)
 else mswap (D.fence n ep q ((oV D).1.mem q).2).2 n ep (oV D).1 ⟨(oV D).1.nu+1,false,n,(oV D).1.ms.set q.toNat (false,0)⟩
theorem mem_at {v:Vi.Vw} (hl:v.ms.length=8) (k:Nat) (hk:k<8):∃m,v.ms[k]?=some m∧v.mem (k:Int)=m∧(Vi.vwC v)[3+k*2]?=some (.bool m.1)∧(Vi.vwC v)[3+k*2+1]?=some (.int .i64 m.2):=by
 obtain⟨m,hm⟩:∃m,v.ms[k]?=some m:=⟨_,List.getElem?_eq_getElem (by rw [hl];exact hk)⟩;obtain⟨x0,x1⟩:=Vi.vwC_at hm;rw [Nat.mul_comm] at x0 x1;exact⟨m,hm,by unfold Vi.Vw.mem;rw [Int.toNat_natCast,List.getD_eq_getElem?_getD,hm];rfl,x0,x1⟩
theorem rout39 (r sg eg:Nat) (D:Dv.Dev) (J:Ar.Job) (n ep q:Int) (w:World) (h:Dv.Rv w r sg eg D) (hJ:J.n≤8):Calls Tryz.prog 39 #[P0 r,Qd (Ar.Qf J),.int .i64 n,.int .i64 ep,.int .i64 q] w fun x w'=>x= .returned (.tuple #[Qd (Vi.vwC (rout D J n ep q).1.1),.bool (rout D J n ep q).1.2,.int .i64 (rout D J n ep q).2.1])∧Dv.Rv w' r sg eg (rout D J n ep q).2.2∧Kept [r,sg,eg] w w':=by
 unfold rout;by_cases a1:n<0
 · rw [if_pos (Or.inl a1)];exact rout_1a_F.1 r sg eg D J ep w h n q (decide_eq_true a1)
 by_cases a2:J.n≤n
 · rw [if_pos (by omega)];exact rout_1a_F.2.1 r sg eg D J ep w h n q (decide_eq_false a1) (decide_eq_true a2)
 by_cases a3:q<0
 · rw [if_pos (by omega)];exact rout_1a_F.2.2.1 r sg eg D J ep w h n q (decide_eq_false a1) (decide_eq_false a2) (decide_eq_true a3)
 by_cases a4:J.n≤q
 · rw [if_pos (by omega)];exact rout_1a_F.2.2.2.1 r sg eg D J ep w h n q (decide_eq_false a1) (decide_eq_false a2) (decide_eq_false a3) (decide_eq_true a4)
 by_cases a5:n=q
 · rw [if_pos (by omega)];exact rout_1a_F.2.2.2.2.1 r sg eg D J ep w h n q (decide_eq_false a1) (decide_eq_false a2) (decide_eq_false a3) (decide_eq_false a4) a5
 rw [if_neg (by omega)];obtain⟨k,rfl⟩:∃k:Nat,n=(k:Int):=⟨n.toNat,by omega⟩;obtain⟨q,rfl⟩:∃q9:Nat,q=(q9:Int):=⟨q.toNat,by omega⟩;have a6:¬k=q:=by omega
 have PW:=fun W (h0:Dv.Rv W r sg eg D)=>who96 r sg eg D J k ep W h0;have PV:=fun W (h0:Dv.Rv W r sg eg D)=>rview14 r sg eg D J W h0;have hok:=oV_okD h.ok;by_cases h1:rwho D J k ep=0
 · rw [if_neg (fun q=>q h1)];obtain⟨g0,g1,g2,g3⟩:=rwho_0 h1;rw [h1] at PW;by_cases h2:(oV D).2=0
   · rw [if_neg (fun q=>q h2)];have hmay:=getV_may _ h2;rw [h2] at PV;replace hmay:(oV D).1.may=true:=hmay;obtain⟨v,hv⟩:∃v,v=(oV D).1:=⟨_,rfl⟩;rw [← hv] at PV hok hmay⊢;obtain⟨m,hm,hmm,x0,x1⟩:=mem_at hok.len k (by omega);obtain⟨m2,hm2,hmm2,y0,y1⟩:=mem_at hok.len q (by omega);have HVL:=Vi.Qk hok.len;rw [hmm,hmm2,Int.toNat_natCast];by_cases h3:m.1=true∧m.2=ep∧m2.1=true
     · rw [if_neg (fun z=>z h3)];by_cases h4:v.nu=4611686018427387904
       · rw [if_pos h4];exact rout_1a_F.2.2.2.2.2.2.2.1 r sg eg D J ep w h k q v (decide_eq_false a1) (decide_eq_false a3) (beq_eq_false_iff_ne.2 a5) (decide_eq_false a2) (decide_eq_false a4) PW PV HVL m.1 m2.1 m.2 m2.2 x0 x1 y0 y1 (by omega) (by omega) h3.1 h3.2.1 h3.2.2 h4
       · rw [if_neg h4];have hno:Vi.isNo (k:Int)=true:=decide_eq_true (by omega);have hum:=next_may hmay h4 (k:Int) (q:Int) (false,0) rfl hno (by
           unfold Vi.Vw.mem;simp only [Int.toNat_natCast];rw [List.getD_eq_getElem?_getD,List.getElem?_set_ne (fun z=>a6 z.symm),hm];exact h3.1)
         have huo:=nx_ok hok hmay (k:Int) (q:Int) (false,0) rfl hno;rw [Int.toNat_natCast] at hum huo;have hep:0≤m2.2∧m2.2≤2147483647:=by
           by_cases h0:v.nu=0
           · have h9:=hmay;unfold Vi.Vw.may at h9;rw [if_pos h0] at h9;have hf:=of_decide_eq_true h9;rw [hf] at hm2;have:m2=(false,0):=by
              have hq:=List.mem_of_getElem? hm2;simpa [Vi.fv,Vi.no8] using hq
             rw [this];simp
           · exact may_ep hmay h0 (List.mem_of_getElem? hm2)
         have PF:=fun W (h0:Dv.Rv W r sg eg D)=>Dv.r_fence r sg eg D k ep q m2.2 W h0 (by omega);have PS:=fun W (h0:Dv.Rv W r sg eg (D.fence k ep q m2.2).2)=>rswap97 r sg eg _ J (k:Int) ep v _ W h0 hok huo hmay hum;exact rout_1a_F.2.2.2.2.2.2.2.2.1 r sg eg D J ep w h k q v _ _ _ _ _ _ _ (decide_eq_false a1) (decide_eq_false a3) (beq_eq_false_iff_ne.2 a5) (decide_eq_false a2) (decide_eq_false a4) PW PV HVL PS (Vi.Qk (mswap_len _ (k:Int) ep v _ huo.len)) m.1 m2.1 m.2 m2.2 x0 x1 y0 y1 (by omega) (by omega) h3.1 h3.2.1 h3.2.2 PF h4 (Vi.may_nu hmay) (by show _<_;omega) hok.len rfl (Vi.Qk huo.len)
     · rw [if_pos h3];cases hm1:m.1 with
       | false=>exact rout_1a_F.2.2.2.2.2.2.2.2.2.1 r sg eg D J ep w h k q v (decide_eq_false a1) (decide_eq_false a3) (beq_eq_false_iff_ne.2 a5) (decide_eq_false a2) (decide_eq_false a4) PW PV HVL m.1 m2.1 m.2 m2.2 x0 x1 y0 y1 (by omega) (by omega) hm1
       | true=>
         by_cases hme:m.2=ep
         · exact rout_1a_F.2.2.2.2.2.2.2.2.2.2.2 r sg eg D J ep w h k q v (decide_eq_false a1) (decide_eq_false a3) (beq_eq_false_iff_ne.2 a5) (decide_eq_false a2) (decide_eq_false a4) PW PV HVL m.1 m2.1 m.2 m2.2 x0 x1 y0 y1 (by omega) (by omega) hm1 hme (by cases hq:m2.1 with | false=>rfl | true=>exact absurd ⟨hm1,hme,hq⟩ h3)
         · exact rout_1a_F.2.2.2.2.2.2.2.2.2.2.1 r sg eg D J ep w h k q v (decide_eq_false a1) (decide_eq_false a3) (beq_eq_false_iff_ne.2 a5) (decide_eq_false a2) (decide_eq_false a4) PW PV HVL m.1 m2.1 m.2 m2.2 x0 x1 y0 y1 (by omega) (by omega) hm1 hme
   · rw [if_pos h2];exact rout_1a_F.2.2.2.2.2.2.1 r sg eg D J ep w h k q _ _ (decide_eq_false a1) (decide_eq_false a3) (beq_eq_false_iff_ne.2 a5) (decide_eq_false a2) (decide_eq_false a4) PW PV (Vi.Qk hok.len) h2
 · rw [if_pos h1];exact rout_1a_F.2.2.2.2.2.1 r sg eg D J ep w h k q _ (decide_eq_false a1) (decide_eq_false a3) (beq_eq_false_iff_ne.2 a5) (decide_eq_false a2) (decide_eq_false a4) PW h1
open Go.RowKit
open Le (Mm Qh Qo)
theorem cg100 (vs:Array Value) (w:World):(callFunc 100 vs).run Tryz.prog w= .ok (.enter 100 vs) w:=by kernel_rfl
section
variable {o:Oper} {a:Act} {w:World} {K:Act→World→Prop} {Q:Exit→Act→World→Prop}
theorem o_bsS (x:Operand) (ho:o.op= .buildSlice 60 1 #[(0,x)]) (vs:List Value) (hl:vs.length=64) (hx:a.eval x=Qd vs) (h:K (a.put o.dst (.slice (some ⟨w.heap.size,0,none⟩) 1 1)) (w.alloc (.cells vs.toArray 59))):o.wp Tryz.prog a w K Q:=by
 unfold Oper.wp execOp;simp only [ho,List.map_toArray,List.map_cons,List.map_nil,hx,Sem.run_bind,bsS w vs hl,Result.andThen_ok];exact h
theorem o_add1 (y:Operand) (ho:o.op= .binOp .add 3 (.const (.int .i64 1)) y 3) (m:Int) (hm:0≤m∧m≤64) (hy:a.eval y= .int .i64 m) (h:K (a.put o.dst (.int .i64 (1+m))) w):o.wp Tryz.prog a w K Q:=by
 have hw:IntKind.i64.wrap (1+m)=1+m:=by rw [IntKind.wrap_i64];omega
 unfold Oper.wp execOp;simp only [ho,hy];simp [go_sem,Act.eval,hw];exact h
end
@[reducible] def SYr (V:World) (r sg eg:Nat) (D':Dv.Dev) (S:List Int) (d:Nat→Bool) (vs:Nat→Value) (W:World):Prop:=
 Kept [r,sg,eg] V W∧(d 9=false→Kept [] V W)∧(d 8=true→d 9=false→∃p,vs 8= .slice (some ⟨p,0,none⟩) 1 1∧V.heap.size≤p∧Blk W p 59 (u8s S))∧(d 9=true→Dv.Rv W r sg eg D')
theorem SYr.loc {V:World} {r sg eg:Nat} {D':Dv.Dev} {S:List Int} :∀d d' vs vs' W,(∀i∈ [8,9],d i=d' i∧vs i=vs' i)→SYr V r sg eg D' S d vs W→SYr V r sg eg D' S d' vs' W:=by
 intro d d' vs vs' W H h;have e0:=H 8 (by simp);have e1:=H 9 (by simp);unfold SYr at h⊢;rw [← e0.1,← e0.2,← e1.1];exact h
theorem SYr.step {V W W':World} {r sg eg:Nat} {D':Dv.Dev} {S:List Int} {d:Nat→Bool} {vs:Nat→Value} (h:SYr V r sg eg D' S d vs W) (hk:Kept [] W W'):SYr V r sg eg D' S d vs W':=
 ⟨h.1.trans (hk.mono (by simp)),fun h7=>(h.2.1 h7).trans hk,fun h8 h9=>by obtain⟨p,h1,h2,h3⟩:=h.2.2.1 h8 h9;exact⟨p,h1,h2,h3.kept hk (by simp)⟩,fun h7=>(h.2.2.2 h7).kept hk (by simp) (by simp) (by simp)⟩
def rsay (D:Dv.Dev) (J:Ar.Job) (n:Int) (l:Le.Le):Int×Dv.Dev:=
 if n<0∨J.n≤n∨l.may=false∨l.ep=0 then (2,D) else if rwho D J n l.ep≠0 then (rwho D J n l.ep,D) else D.write n l.ep (1+n) [(Le.putL l).1]
set_option linter.unusedVariables false in
theorem rsay_a_F:(∀(r sg eg:Nat) (D:Dv.Dev) (J:Ar.Job) (n:Int) (l:Le.Le) (w:World) (h:Dv.Rv w r sg eg D) (h1:decide (n<0)=true),Calls Tryz.prog 40 #[P0 r,Qd (Ar.Qf J),.int .i64 n,Qd (Le.Le.C l)] w fun x w'=>x= .returned (.int .i64 2)∧Dv.Rv w' r sg eg D∧Kept [r,sg,eg] w w')∧(∀(r sg eg:Nat) (D:Dv.Dev) (J:Ar.Job) (n:Int) (l:Le.Le) (w:World) (h:Dv.Rv w r sg eg D) (h1:decide (n<0)=false) (h2:decide (J.n≤n)=true),Calls Tryz.prog 40 #[P0 r,Qd (Ar.Qf J),.int .i64 n,Qd (Le.Le.C l)] w fun x w'=>x= .returned (.int .i64 2)∧Dv.Rv w' r sg eg D∧Kept [r,sg,eg] w w')∧(∀(r sg eg:Nat) (D:Dv.Dev) (J:Ar.Job) (n:Int) (l:Le.Le) (w:World) (h:Dv.Rv w r sg eg D) (h1:decide (n<0)=false) (h2:decide (J.n≤n)=false) (PM:Hid (∀W,Calls Tryz.prog 99 #[Qd (Le.Le.C l)] W fun e w'=>e= .returned (.bool false)∧Kept [] W w')),Calls Tryz.prog 40 #[P0 r,Qd (Ar.Qf J),.int .i64 n,Qd (Le.Le.C l)] w fun x w'=>x= .returned (.int .i64 2)∧Dv.Rv w' r sg eg D∧Kept [r,sg,eg] w w')∧(∀(r sg eg:Nat) (D:Dv.Dev) (J:Ar.Job) (n:Int) (l:Le.Le) (w:World) (h:Dv.Rv w r sg eg D) (h1:decide (n<0)=false) (h2:decide (J.n≤n)=false) (PM:Hid (∀W,Calls Tryz.prog 99 #[Qd (Le.Le.C l)] W fun e w'=>e= .returned (.bool true)∧Kept [] W w')) (HEP:Hid (l.ep=0)),Calls Tryz.prog 40 #[P0 r,Qd (Ar.Qf J),.int .i64 n,Qd (Le.Le.C l)] w fun x w'=>x= .returned (.int .i64 2)∧Dv.Rv w' r sg eg D∧Kept [r,sg,eg] w w')∧(∀(r sg eg:Nat) (D:Dv.Dev) (J:Ar.Job) (n:Int) (l:Le.Le) (w:World) (h:Dv.Rv w r sg eg D) (e1:Int) (h1:decide (n<0)=false) (h2:decide (J.n≤n)=false) (PM:Hid (∀W,Calls Tryz.prog 99 #[Qd (Le.Le.C l)] W fun e w'=>e= .returned (.bool true)∧Kept [] W w')) (PW:Hid (∀W,Dv.Rv W r sg eg D→Calls Tryz.prog 96 #[P0 r,Qd (Ar.Qf J),.int .i64 n,.int .i64 l.ep] W fun e w'=>e= .returned (.int .i64 e1)∧Kept [] W w')) (hep:¬l.ep=0) (he:¬e1=0),Calls Tryz.prog 40 #[P0 r,Qd (Ar.Qf J),.int .i64 n,Qd (Le.Le.C l)] w fun x w'=>x= .returned (.int .i64 e1)∧Dv.Rv w' r sg eg D∧Kept [r,sg,eg] w w')∧(∀(r sg eg:Nat) (D:Dv.Dev) (J:Ar.Job) (n:Int) (l:Le.Le) (w:World) (h:Dv.Rv w r sg eg D) (we:Int) (D2:Dv.Dev) (S:List Int) (h1:decide (n<0)=false) (h2:decide (J.n≤n)=false) (PM:Hid (∀W,Calls Tryz.prog 99 #[Qd (Le.Le.C l)] W fun e w'=>e= .returned (.bool true)∧Kept [] W w')) (PW:Hid (∀W,Dv.Rv W r sg eg D→Calls Tryz.prog 96 #[P0 r,Qd (Ar.Qf J),.int .i64 n,.int .i64 l.ep] W fun e w'=>e= .returned (.int .i64 0)∧Kept [] W w')) (hep:¬l.ep=0) (PP:Hid (∀W,Calls Tryz.prog 101 #[Qd (Le.Le.C l)] W fun e w'=>e= .returned (Qd (u8s S))∧Kept [] W w')) (PS:Hid (∀W p,Dv.Rv W r sg eg D→Blk W p 59 (u8s S)→((r≠p∧sg≠p)∧eg≠p)→Calls Tryz.prog 100 #[P0 r,.int .i64 n,.int .i64 l.ep,.int .i64 (1+n),.slice (some ⟨p,0,none⟩) 1 1] W fun x w'=>x= .returned (.int .i64 we)∧Dv.Rv w' r sg eg D2∧Kept [r,sg] W w')) (HSS:Hid (Dv.Sec S)) (HN:Hid (0≤n∧n≤64)),Calls Tryz.prog 40 #[P0 r,Qd (Ar.Qf J),.int .i64 n,Qd (Le.Le.C l)] w fun x w'=>x= .returned (.int .i64 we)∧Dv.Rv w' r sg eg D2∧Kept [r,sg,eg] w w'):=by
 refine⟨fun r sg eg D J n l w h h1=> ?_,fun r sg eg D J n l w h h1 h2=> ?_,fun r sg eg D J n l w h h1 h2 PM=> ?_,fun r sg eg D J n l w h h1 h2 PM HEP=> ?_,fun r sg eg D J n l w h e1 h1 h2 PM PW hep he=> ?_,fun r sg eg D J n l w h we D2 S h1 h2 PM PW hep PP PS HSS HN=> ?_⟩;have M:Hid (Ph r sg eg D w w []):=hide (Ph.init h);clear h
 rotate_left
 have M:Hid (Ph r sg eg D w w []):=hide (Ph.init h);clear h
 rotate_left
 have M:Hid (Ph r sg eg D w w []):=hide (Ph.init h);clear h
 rotate_left
 have M:Hid (Ph r sg eg D w w []):=hide (Ph.init h);clear h
 rotate_left
 have M:Hid (Ph r sg eg D w w []):=hide (Ph.init h);clear h
 rotate_left
 have M:Hid (Ph r sg eg D w w []):=hide (Ph.init h);clear h
 rotate_left
 all_goals
   go_enter Tryz.func40,Tryz.ntmps40
   go_wp2_with (first |(refine Qp rfl (.tmp 1) rfl (Ar.Qf J) rfl ?_;intro W1 b1 e1 B1 K1;replace M:=hide ((Qa M).new e1 B1 K1);clear e1 B1 K1;refine Stp.go ?_))
   constructor
   go_wp2_with (first |(refine Qp rfl (.tmp 3) rfl (Le.Le.C l) rfl ?_;intro W2 b2 e2 B2 K2;replace M:=hide ((Qa M).new e2 B2 K2);clear e2 B2 K2;have f0:=Qb ((Qa M).at 0 _ rfl) 0 (.int .i64 J.n) rfl;have f1:=Qb ((Qa M).at 1 _ rfl) 0 (.int .i64 l.ep) rfl;refine Stp.go ?_))
   constructor
 · go_wp2_with fail
   go_ret
   exact⟨rfl,(Qa M).rv,(Qa M).kept⟩
 · go_wp2_with fail
   go_ret
   exact⟨rfl,(Qa M).rv,(Qa M).kept⟩
 all_goals
   go_wp2_with (first |(refine Le.Zb Le.QC (.tmp 7) rfl rfl b2 0 rfl (Le.Le.C l) rfl ((Qa M).at 1 _ rfl).range ?_;refine Stp.go ?_))
   constructor
 · go_wp2_with (first |(go_at_call 99;refine(Qa PM _).mono ?_;rintro e W3 ⟨rfl,K3⟩;replace M:=hide ((Qa M).step K3);clear K3;refine Stp.go ?_))
   constructor
   go_wp2_with fail
   go_ret
   exact⟨rfl,(Qa M).rv,(Qa M).kept⟩
 · go_wp2_with (first |(go_at_call 99;refine(Qa PM _).mono ?_;rintro e W3 ⟨rfl,K3⟩;replace M:=hide ((Qa M).step K3);clear K3;clear f1;have f1:=Qb ((Qa M).at 1 _ rfl) 0 (.int .i64 l.ep) rfl;rw [Qa HEP] at f1;refine Stp.go ?_))
   constructor
   go_wp2_with fail
   go_ret
   exact⟨rfl,(Qa M).rv,(Qa M).kept⟩
 all_goals
   go_wp2_with (first |(go_at_call 99;refine(Qa PM _).mono ?_;rintro e W3 ⟨rfl,K3⟩;replace M:=hide ((Qa M).step K3);clear K3;clear f1;have f1:=Qb ((Qa M).at 1 _ rfl) 0 (.int .i64 l.ep) rfl;refine Stp.go ?_))
   constructor
   go_wp2_with (first |(refine Qg Zv rfl (.tmp 5) rfl b1 0 rfl (Ar.Qf J) rfl ((Qa M).at 0 _ rfl).range ?_;refine Stp.go ?_))
   constructor
   go_wp2_with (first |(go_at_call 96;refine(Qa PW _ (Qa M).rv).mono ?_;rintro e W4 ⟨rfl,K4⟩;replace M:=hide ((Qa M).step K4);clear K4;clear f0 f1;refine Stp.go ?_))
   constructor
   go_wp2_with fail
 · go_ret
   exact⟨rfl,(Qa M).rv,(Qa M).kept⟩
 refine wp_region_any mixed (QL 11 rfl (by kernel_rfl) [some (P0 r),some (.int .i64 n),some (.pointer (some ⟨b2,0,none⟩)),some (.int .i64 l.ep),some (.int .i64 n),some (.int .i64 (1+n)),some (Qd (Le.Le.C l)),some (Qd (u8s S)),none,some (.int .i64 we),some (.int .i64 we)] rfl (by kernel_rfl) (fun l9 vs W=>(SYr W4 r sg eg D2 S) (fun i=>l9.getD i false) vs W) (⟨⟨rfl,rfl,rfl,Nat.le_refl _,fun _ _ _=>rfl⟩,(fun _=>⟨rfl,rfl,rfl,Nat.le_refl _,fun _ _ _=>rfl⟩),(fun h=>by cases h),(fun h=>by cases h)⟩) ?_ ?_)
 · intro ix o' hi ho a' w2 l_ vs hls hlf hJ hout hin hdep hnot
   match ix,ho with
   | 0,ho=>
    obtain rfl:=Oj9 ho;have e0:=hout 0 (by kernel_rfl);replace e0:a'.eval (.tmp 0)=_:=e0.trans rfl;exact wp_move (.tmp 0) rfl _ e0 ⟨_,rfl,Qe rfl,Le.Qj [8,9] SYr.loc (by omega) (by decide) hJ⟩
   | 1,ho=>
    obtain rfl:=Oj9 ho;have e0:=hout 2 (by kernel_rfl);replace e0:a'.eval (.tmp 2)=_:=e0.trans rfl;exact wp_move (.tmp 2) rfl _ e0 ⟨_,rfl,Qe rfl,Le.Qj [8,9] SYr.loc (by omega) (by decide) hJ⟩
   | 2,ho=>
    obtain rfl:=Oj9 ho;have e0:=hout 7 (by kernel_rfl);replace e0:a'.eval (.tmp 7)=_:=e0.trans rfl;exact o_fldL (.tmp 7) 0 (by omega) rfl b2 e0 ⟨_,rfl,Qe rfl,Le.Qj [8,9] SYr.loc (by omega) (by decide) hJ⟩
   | 3,ho=>
    obtain rfl:=Oj9 ho;have e0:a'.eval (.tmp 39)= .pointer (some ⟨b2,0,none⟩):=by have h9:=hin 2 39 (by kernel_rfl) (by kernel_rfl);exact h9.1.trans (Qc _ h9.2 rfl)
    exact Za (.tmp 39) rfl _ _ e0 (Qb (((Qa M).at 1 _ rfl).kept hJ.1 ((Qa M).ne (b2,73,Le.Le.C l) (by simp))) 0 _ rfl) ⟨_,rfl,Qe rfl,Le.Qj [8,9] SYr.loc (by omega) (by decide) hJ⟩
   | 4,ho=>
    obtain rfl:=Oj9 ho;have e0:=hout 2 (by kernel_rfl);replace e0:a'.eval (.tmp 2)=_:=e0.trans rfl;exact wp_move (.tmp 2) rfl _ e0 ⟨_,rfl,Qe rfl,Le.Qj [8,9] SYr.loc (by omega) (by decide) hJ⟩
   | 5,ho=>
    obtain rfl:=Oj9 ho;have e0:a'.eval (.tmp 41)= .int .i64 n:=by have h9:=hin 4 41 (by kernel_rfl) (by kernel_rfl);exact h9.1.trans (Qc _ h9.2 rfl)
    exact o_add1 (.tmp 41) rfl n (Qa HN) e0 ⟨_,rfl,Qe rfl,Le.Qj [8,9] SYr.loc (by omega) (by decide) hJ⟩
   | 6,ho=>
    obtain rfl:=Oj9 ho;have e0:=hout 7 (by kernel_rfl);replace e0:a'.eval (.tmp 7)=_:=e0.trans rfl;exact Qw Le.QC (.tmp 7) rfl b2 0 e0 (Le.Le.C l) rfl (((Qa M).at 1 _ rfl).kept hJ.1 ((Qa M).ne (b2,73,Le.Le.C l) (by simp))).range ⟨_,rfl,Qe rfl,Le.Qj [8,9] SYr.loc (by omega) (by decide) hJ⟩
   | 7,ho=>
    obtain rfl:=Oj9 ho;have e0:a'.eval (.tmp 43)=Qd (Le.Le.C l):=by have h9:=hin 6 43 (by kernel_rfl) (by kernel_rfl);exact h9.1.trans (Qc _ h9.2 rfl)
    refine Qq 101 _ _ rfl #[Qd (Le.Le.C l)] (by simp [e0]) (Le.cg101 _ _) ((Qa PP w2).mono ?_);rintro e w3 ⟨rfl,hk3⟩;exact⟨_,rfl,_,rfl,Qe rfl,Le.Qj [8,9] SYr.loc (by omega) (by decide) (SYr.step hJ hk3)⟩
   | 8,ho=>
    obtain rfl:=Oj9 ho;have e0:a'.eval (.tmp 44)=Qd (u8s S):=by have h9:=hin 7 44 (by kernel_rfl) (by kernel_rfl);exact h9.1.trans (Qc _ h9.2 rfl)
    have h9f:l_.getD 9 false=false:=hnot 9 (by kernel_rfl);exact o_bsS (.tmp 44) rfl (u8s S) (by rw [Qy];exact(Qa HSS).1) e0 ⟨_,rfl,QA rfl,Le.QJ (by omega) ⟨hJ.1.alloc _,(fun _=>(hJ.2.1 h9f).alloc _),(fun _ _=>⟨w2.heap.size,rfl,(hJ.2.1 h9f).size,Blk.new w2 59 _⟩),(fun h=>by have h9:l_.getD 9 false=true:=h;rw [h9f] at h9;cases h9)⟩⟩
   | 9,ho=>
    obtain rfl:=Oj9 ho;have e0:a'.eval (.tmp 37)=P0 r:=by have h9:=hin 0 37 (by kernel_rfl) (by kernel_rfl);exact h9.1.trans (Qc _ h9.2 rfl)
    have e1:a'.eval (.tmp 38)= .int .i64 n:=by have h9:=hin 1 38 (by kernel_rfl) (by kernel_rfl);exact h9.1.trans (Qc _ h9.2 rfl)
    have e2:a'.eval (.tmp 40)= .int .i64 l.ep:=by have h9:=hin 3 40 (by kernel_rfl) (by kernel_rfl);exact h9.1.trans (Qc _ h9.2 rfl)
    have e3:a'.eval (.tmp 42)= .int .i64 (1+n):=by have h9:=hin 5 42 (by kernel_rfl) (by kernel_rfl);exact h9.1.trans (Qc _ h9.2 rfl)
    have e4:a'.eval (.tmp 45)=vs 8:=(hin 8 45 (by kernel_rfl) (by kernel_rfl)).1;obtain⟨p,hp,hge,hbp⟩:=hJ.2.2.1 (hdep 8 (by kernel_rfl)) hlf;rw [hp] at e4;have hRw:=((Qa M).step (hJ.2.1 hlf)).rv;have hlt:=((Qa M).rv).lt;refine Qq 100 _ _ rfl #[P0 r,.int .i64 n,.int .i64 l.ep,.int .i64 (1+n),.slice (some ⟨p,0,none⟩) 1 1] (by simp [e0,e1,e2,e3,e4]) (cg100 _ _) ((Qa PS w2 p hRw hbp (by omega)).mono ?_);rintro e w3 ⟨rfl,hR3,hk3⟩;exact⟨_,rfl,_,rfl,Qe rfl,Le.QJ (by omega) ⟨hJ.1.trans (hk3.mono (by simp)),(fun h=>by cases h),(fun _ h=>by cases h),fun _=>hR3⟩⟩
   | 10,ho=>
    obtain rfl:=Oj9 ho;have e0:a'.eval (.tmp 46)= .int .i64 we:=by have h9:=hin 9 46 (by kernel_rfl) (by kernel_rfl);exact h9.1.trans (Qc _ h9.2 rfl)
    exact QI (.tmp 46) rfl _ e0 ⟨_,rfl,Qe rfl,Le.Qj [8,9] SYr.loc (by omega) (by decide) hJ⟩
 intro l_ vs9 V9 hl hJ htold;have t0:vs9 0=P0 r:=Qc _ (htold 0 (by decide)) rfl;have t1:vs9 1= .int .i64 n:=Qc _ (htold 1 (by decide)) rfl;have t2:vs9 2= .pointer (some ⟨b2,0,none⟩):=Qc _ (htold 2 (by decide)) rfl;have t3:vs9 3= .int .i64 l.ep:=Qc _ (htold 3 (by decide)) rfl;have t4:vs9 4= .int .i64 n:=Qc _ (htold 4 (by decide)) rfl;have t5:vs9 5= .int .i64 (1+n):=Qc _ (htold 5 (by decide)) rfl;have t6:vs9 6=Qd (Le.Le.C l):=Qc _ (htold 6 (by decide)) rfl;have t7:vs9 7=Qd (u8s S):=Qc _ (htold 7 (by decide)) rfl;have t9:vs9 9= .int .i64 we:=Qc _ (htold 9 (by decide)) rfl;have t10:vs9 10= .int .i64 we:=Qc _ (htold 10 (by decide)) rfl;rw [show (List.range 11).map vs9= [vs9 0,vs9 1,vs9 2,vs9 3,vs9 4,vs9 5,vs9 6,vs9 7,vs9 8,vs9 9,vs9 10] from rfl];simp only [t0,t1,t2,t3,t4,t5,t6,t7,t9,t10,Qz,Act.put,List.setIfInBounds_toArray,List.set_cons_succ,List.set_cons_zero];clear t0 t1 t2 t3 t4 t5 t6 t7 t9 t10 htold;replace M:Hid (Ph r sg eg D2 w V9 [(b1,23,Ar.Qf J),(b2,73,Le.Le.C l)]):=hide ((Qa M).dev hJ.1 (fun _ h=>h) (hJ.2.2.2 (hl 9 (by decide))));clear hJ hl;go_wp2_with fail
 go_ret
 exact⟨rfl,(Qa M).rv,(Qa M).kept⟩
theorem rsay40 (r sg eg:Nat) (D:Dv.Dev) (J:Ar.Job) (n:Int) (l:Le.Le) (w:World) (h:Dv.Rv w r sg eg D) (hJ:J.n≤8):Calls Tryz.prog 40 #[P0 r,Qd (Ar.Qf J),.int .i64 n,Qd (Le.Le.C l)] w fun x w'=>x= .returned (.int .i64 (rsay D J n l).1)∧Dv.Rv w' r sg eg (rsay D J n l).2∧Kept [r,sg,eg] w w':=by
 unfold rsay;by_cases a1:n<0
 · rw [if_pos (Or.inl a1)];exact rsay_a_F.1 r sg eg D J n l w h (decide_eq_true a1)
 by_cases a2:J.n≤n
 · rw [if_pos (Or.inr (Or.inl a2))];exact rsay_a_F.2.1 r sg eg D J n l w h (decide_eq_false a1) (decide_eq_true a2)
 have PM:=fun W=>mayLease99 l W;cases hm:l.may with
 | false=>
   rw [hm] at PM;rw [if_pos (Or.inr (Or.inr (Or.inl rfl)))];exact rsay_a_F.2.2.1 r sg eg D J n l w h (decide_eq_false a1) (decide_eq_false a2) PM
 | true=>
   rw [hm] at PM;by_cases a3:l.ep=0
   · rw [if_pos (Or.inr (Or.inr (Or.inr a3)))];exact rsay_a_F.2.2.2.1 r sg eg D J n l w h (decide_eq_false a1) (decide_eq_false a2) PM a3
   rw [if_neg (by simp;omega)];have PW:=fun W (h0:Dv.Rv W r sg eg D)=>who96 r sg eg D J n l.ep W h0;by_cases h1:rwho D J n l.ep=0
   · rw [if_neg (fun q=>q h1)];rw [h1] at PW;have hsec:=putL_sec l;have PS:=fun W p (h0:Dv.Rv W r sg eg D) (hB:Blk W p 59 (u8s (Le.putL l).1)) (hne:(r≠p∧sg≠p)∧eg≠p)=>Dv.r_write r sg eg D n l.ep (1+n) (some ⟨p,0,none⟩) 1 1 [(Le.putL l).1] W h0 (by omega) (by omega) (secs_one hB hsec) (fun h9 off e9=>by cases e9;simp only [List.mem_cons,List.not_mem_nil,or_false,not_or];exact⟨fun e=>hne.1.1 e.symm,fun e=>hne.1.2 e.symm⟩);exact rsay_a_F.2.2.2.2.2 r sg eg D J n l w h _ _ _ (decide_eq_false a1) (decide_eq_false a2) PM PW a3 (fun W=>rput101 l W hm) PS hsec (by show _∧_;omega)
   · rw [if_pos h1];exact rsay_a_F.2.2.2.2.1 r sg eg D J n l w h _ (decide_eq_false a1) (decide_eq_false a2) PM PW a3 h1
open Go.RowKit
namespace Vi
theorem may_mem {v : Vw} (h : v.may = true) (hv : v.ms.length = 8) {n : Int} (h0 : 0 ≤ n) (h8 : n < 8) : Zy (v.mem n) = true := by
  have hm := mem_at hv h0 h8
  have := List.mem_of_getElem? hm
  unfold Vw.may at h
  split at h
  · rw [decide_eq_true_eq] at h
    have hx : v.mem n ∈ no8 := by rw [h] at this ⊢; exact this
    simp [no8] at hx
    rw [hx]; rfl
  · simp only [Bool.and_eq_true, List.all_eq_true] at h
    exact h.2.2 _ this
theorem ofB_app : ∀ (l : List Int) (n x : Int), ofB n (l ++ [x]) = wrap64 (ofB n l * 256 + x)
  | [], n, x => rfl
  | y :: l, n, x => by rw [List.cons_append, ofB, ofB_app l, ofB]
theorem ofB_be : ∀ (k : Nat) (m : Int), 0 ≤ m → m < 256 ^ k → m ≤ 9223372036854775807 → ofB 0 (be k m) = m
  | 0, m, h0, h1, _ => by
    rw [Int.pow_zero] at h1
    simp [be, ofB]
    omega
  | k + 1, m, h0, h1, h2 => by
    have hp : (256 : Int) ^ (k + 1) = 256 ^ k * 256 := Int.pow_succ ..
    rw [hp] at h1
    rw [be, ofB_app, ofB_be k (m / 256) (by omega) (by omega) (by omega)]
    unfold wrap64
    omega
theorem bitF_up : ∀ (l : List (Bool × Int)) (j : Nat), QN (j + 1) l = 2 * QN j l := by
  intro l
  induction l with
  | nil => intro j; rfl
  | cons m l ih =>
    intro j
    rw [QN, QN, ih, ih]
    have : 2 ^ (j + 1) = 2 * 2 ^ j := by rw [Nat.pow_succ]; omega
    split
    · rw [this]; omega
    · omega
theorem bit_at : ∀ (l : List (Bool × Int)) (i : Nat) (m : Bool × Int), l[i]? = some m → QN 0 l / 2 ^ i % 2 = if m.1 then 1 else 0 := by
  intro l
  induction l with
  | nil => intro i m h; simp at h
  | cons x l ih =>
    intro i m h
    have hb : QN 0 (x :: l) = (if x.1 then 1 else 0) + 2 * QN 0 l := by rw [QN, bitF_up]
    cases i with
    | zero =>
      simp at h
      subst h
      rw [hb, Nat.pow_zero, Nat.div_one]
      split <;> omega
    | succ i =>
      have := ih i m (by simpa using h)
      rw [hb, Nat.pow_succ, Nat.mul_comm (2 ^ i) 2, ← Nat.div_div_eq_div_mul]
      have h2 : ((if x.1 then 1 else 0) + 2 * QN 0 l) / 2 = QN 0 l := by split <;> omega
      rw [h2]
      exact this
theorem ep_at : ∀ (l : List (Bool × Int)) (z : List Int) (i : Nat) (m : Bool × Int), l[i]? = some m → ((epB l ++ z).drop (4 * i)).take 4 = be 4 m.2 := by
  intro l
  induction l with
  | nil => intro z i m h; simp at h
  | cons x l ih =>
    intro z i m h
    have he : epB (x :: l) = be 4 x.2 ++ epB l := rfl
    rw [he]
    cases i with
    | zero =>
      simp at h
      subst h
      rw [Nat.mul_zero, List.drop_zero, List.append_assoc, List.take_append_of_le_length (by rw [ZV]; exact Nat.le_refl _), List.take_of_length_le (by rw [ZV]; exact Nat.le_refl _)]
    | succ i =>
      rw [List.append_assoc, show 4 * (i + 1) = 4 + 4 * i by omega, ← List.drop_drop, List.drop_left' (ZV 4 _)]
      exact ih z i m (by simpa using h)
theorem view_sec {v : Vw} (hm : v.may = true) (hok : v.Ok) (hq : ¬ v = fv) : ZH (secV v) = v := by
  have hnu := may_nu hm
  have hn0 : ¬ v.nu = 0 := by
    intro h
    unfold Vw.may at hm
    rw [if_pos h] at hm
    exact hq (by simpa using hm)
  have hfd : 0 ≤ v.fd ∧ v.fd < 8 := by
    unfold Vw.may at hm
    rw [if_neg hn0] at hm
    simp [Vw.isIn, isNo] at hm
    omega
  have h8 := hok.len
  have e1 : (secV v).getD 1 0 = if v.op then 1 else 0 := rfl
  have e2 : (secV v).getD 2 0 = v.fd % 256 := rfl
  have e3 : (secV v).getD 3 0 = ((QN 0 v.ms : Nat) : Int) := rfl
  have e4 : ((secV v).drop 4).take 8 = be 8 v.nu := by
    show (be 8 v.nu ++ epB v.ms ++ zs 20).take 8 = _
    rw [List.append_assoc, List.take_append_of_le_length (by rw [ZV]; exact Nat.le_refl _), List.take_of_length_le (by rw [ZV]; exact Nat.le_refl _)]
  have e5 : ∀ i, ((secV v).drop (12 + 4 * i)) = (epB v.ms ++ zs 20).drop (4 * i) := by
    intro i
    rw [← List.drop_drop]
    refine congrArg (List.drop (4 * i)) ?_
    show ([193, (if v.op then 1 else 0), v.fd % 256, ((QN 0 v.ms : Nat) : Int)] ++ be 8 v.nu ++ epB v.ms ++ zs 20).drop 12 = _
    rw [List.append_assoc _ (epB v.ms)]
    rw [List.drop_left' (by rw [List.length_append, ZV]; rfl)]
  unfold ZH
  rw [e1, e2, e4, ofB_be 8 v.nu hnu.1 (by have : (256 : Int) ^ 8 = 18446744073709551616 := by decide
                                          omega) (by omega)]
  have hms : (List.range 8).map (ZG (secV v)) = v.ms := by
    apply List.ext_getElem?
    intro i
    by_cases hi : i < 8
    · obtain ⟨m, hmi⟩ : ∃ m, v.ms[i]? = some m := ⟨_, List.getElem?_eq_getElem (by omega)⟩
      have hmk := may_mem hm hok.len (n := (i : Int)) (by omega) (by omega)
      have hme : v.mem (i : Int) = m := by unfold Vw.mem; rw [Int.toNat_natCast, List.getD_eq_getElem?_getD, hmi]; rfl
      rw [hme] at hmk
      have he : 0 ≤ m.2 ∧ m.2 ≤ 2147483647 := by
        unfold Zy isEp at hmk
        split at hmk <;> simp at hmk <;> omega
      have hmv : ZG (secV v) i = m := by
        unfold ZG
        rw [e3, e5 i, ep_at v.ms (zs 20) i m hmi, ofB_be 4 m.2 he.1 (by have : (256 : Int) ^ 4 = 4294967296 := by decide
                                                                        omega) (by omega)]
        have hb := bit_at v.ms i m hmi
        refine Prod.ext ?_ rfl
        show decide (((QN 0 v.ms : Nat) : Int) / 2 ^ i % 2 = 1) = m.1
        have hc : ((QN 0 v.ms : Nat) : Int) / 2 ^ i % 2 = ((QN 0 v.ms / 2 ^ i % 2 : Nat) : Int) := by
          rw [Int.natCast_emod, Int.natCast_ediv, Int.natCast_pow]; rfl
        rw [hc, hb]
        cases m.1 <;> rfl
      rw [hmi, ← hmv]
      simp [hi]
    · rw [List.getElem?_eq_none (by simp; omega), List.getElem?_eq_none (by omega)]
  rw [hms]
  cases v with
  | mk nu op fd ms =>
    simp only at *
    refine congr (congr (congr rfl ?_) ?_) rfl
    · cases op <;> rfl
    · omega
theorem sec_byts {v : Vw} (hok : v.Ok) : Byts 64 (secV v) := by
  refine ⟨by unfold secV; rw [Zj, hok.len], ?_⟩
  intro x hx
  unfold secV QR at hx
  have hb : QN 0 v.ms < 256 := by
    have := bitF_lt v.ms 0
    rw [hok.len] at this
    simp at this
    omega
  simp only [List.mem_append, List.mem_cons, List.mem_nil_iff, or_false] at hx
  rcases hx with ((hx | hx) | hx) | hx
  · rcases hx with rfl | rfl | rfl | rfl
    · omega
    · split <;> omega
    · omega
    · omega
  · exact be_byte _ _ x hx
  · unfold epB at hx
    simp only [List.mem_flatten, List.mem_map] at hx
    obtain ⟨l, ⟨m, _, rfl⟩, hx⟩ := hx
    exact be_byte _ _ x hx
  · exact (zs_byts 20).byte x hx
theorem get_put {v : Vw} (hm : v.may = true) (hok : v.Ok) : getV (Zr v).1 = (v, 0) := by
  unfold Zr
  rw [if_neg (by rw [hm]; simp)]
  by_cases hq : v = fv
  · rw [if_pos hq]; unfold getV; rw [if_pos rfl, hq]
  · rw [if_neg hq]
    show getV (secV v) = _
    have hvs := view_sec hm hok hq
    unfold getV
    rw [if_neg (by intro h; have := congrArg (fun l => l.getD 0 0) h; simp [secV, QR, zs] at this), hvs]
    rw [if_pos]
    unfold Zr
    rw [if_neg (by rw [hm]; simp), if_neg hq]
end Vi
end Go.Proofs.YtcfflbafclmheaaGreatDoor
