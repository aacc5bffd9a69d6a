/-
  Texts of the walks of member, shortened.
-/
import Derived.Test.YtcfflbafclmheaaGreatDoorDaw
set_option maxRecDepth 100000
set_option maxHeartbeats 100000000
set_option linter.unusedSimpArgs false
namespace Go.Proofs.YtcfflbafclmheaaGreatDoor
open Go.RowKit
open Le (Mm Qh Qo)
theorem getV_len (s:List Int):(Vi.getV s).1.ms.length=8:=by
 unfold Vi.getV;split
 · rfl
 · split
   · simp [Vi.ZH]
   · rfl
theorem getV_may (s:List Int) (h:(Vi.getV s).2=0):(Vi.getV s).1.may=true:=by
 unfold Vi.getV at h⊢;split
 · rfl
 · rename_i hz;rw [if_neg hz] at h;split
   · rename_i hp;cases hm:(Vi.ZH s).may with
     | true=>rfl
     | false=>unfold Vi.Zr at hp;rw [if_pos hm] at hp;have h9:=congrArg Prod.snd hp;simp at h9
   · rename_i hp;rw [if_neg hp] at h;simp at h
theorem next_may {v:Vi.Vw} (hm:v.may=true) (hn:v.nu≠4611686018427387904) (f n:Int) (m:Bool×Int) (hk:Vi.Zy m=true) (hf:Vi.isNo f=true) (hi:((⟨v.nu+1,false,f,v.ms.set n.toNat m⟩:Vi.Vw).mem f).1=true):(⟨v.nu+1,false,f,v.ms.set n.toNat m⟩:Vi.Vw).may=true:=by
 have h1:=Vi.may_nu hm;have hall:v.ms.all Vi.Zy=true:=by
   have h9:=hm;unfold Vi.Vw.may at h9;split at h9
   · have:=of_decide_eq_true h9;rw [this];rfl
   · simp only [Bool.and_eq_true] at h9;exact h9.2.2
 unfold Vi.Vw.may;simp only;rw [if_neg (by omega),decide_eq_true (by omega),Bool.true_and];unfold Vi.Vw.isIn;rw [hf,Bool.true_and,hi,Bool.true_and,List.all_eq_true];intro x hx;rcases List.mem_or_eq_of_mem_set hx with h2 | h2
 · exact List.all_eq_true.1 hall x h2
 · rw [h2];exact hk
theorem nx_ok {v:Vi.Vw} (hv:v.Ok) (hm:v.may=true) (f n:Int) (m:Bool×Int) (hk:Vi.Zy m=true) (hf:Vi.isNo f=true):(⟨v.nu+1,false,f,v.ms.set n.toNat m⟩:Vi.Vw).Ok:=by
 have h1:=Vi.may_nu hm;have h2:0≤f∧f<8:=of_decide_eq_true hf;refine⟨⟨by simp only;omega,by simp only;omega⟩,⟨by simp only;omega,by simp only;omega⟩,by simp [hv.len],?_⟩;intro x hx;rcases List.mem_or_eq_of_mem_set hx with h3 | h3
 · exact hv.ep x h3
 · rw [h3];unfold Vi.Zy Vi.isEp at hk;split at hk <;> simp at hk <;> constructor <;> omega
theorem wpStoreMemP {ops:Array Oper} {rest:List Oper} {op:Oper} {a:Act} {w w0:World} {Q:Exit→Act→World→Prop} {bs:List (Nat×Nat×List Value)} {r sg eg:Nat} {D:Dv.Dev} (hgd:op.guard=none) (x y:Operand) (ho:op.op= .store 26 x y) (hd:op.dst=none) (b n i:Nat) (v:Vi.Vw) (m:Bool×Int) (hx:a.eval x= .pointer (some ⟨b,3+n*2,none⟩)) (hy:a.eval y=Qd (Vi.QD m)) (hM:Ph r sg eg D w0 w bs) (hi:bs[i]?=some (b,29,Vi.vwC v)) (hn:n<8) (hv:v.ms.length=8)
  (h:∀W,Ph r sg eg D w0 W (bs.set i (b,29,Vi.vwC ⟨v.nu,v.op,v.fd,v.ms.set n m⟩))→wpList Tryz.prog ops Q rest a W):wpList Tryz.prog ops Q (op::rest) a w:=
 wpList_plain hgd fun K hK=>by
  refine Vi.o_stMem x y ho hd b n v m hx hy (hM.at i _ hi) hn hv (fun W hB hk=> ?_);rw [hd];exact hK _ _ (h W (hM.upd (hM.mm.mut i hi hk hB) (set_fst i hi)))
theorem build26p (w:World) (o:Bool) (e:Int):(Instr.build 26 #[(0,.bool o),(1,.int .i64 e)]).run Tryz.prog w= .ok (Qd (Vi.QD (o,e))) w:=by kernel_rfl
theorem res38 (w:World) (z:Nat) (vs:List Value) (b:Bool) (e:Int) (tmps:Array Value) (h4:tmps[8]?.getD undef=P0 z) (h5:tmps[9]?.getD undef= .bool b) (h6:tmps[10]?.getD undef= .int .i64 e) (hl:vs.length=19) (hb:Blk w z 29 vs):(results Tryz.f38 tmps).run Tryz.prog w= .ok (.tuple #[Qd vs,.bool b,.int .i64 e]) w:=by
 have:=Zq Vi.Qn hl hb;simp [results,Tryz.results38,h4,h5,h6,this,asAddr]
theorem res41 (w:World) (z:Nat) (vs:List Value) (b:Bool) (e:Int) (tmps:Array Value) (h4:tmps[8]?.getD undef=P0 z) (h5:tmps[9]?.getD undef= .bool b) (h6:tmps[10]?.getD undef= .int .i64 e) (hl:vs.length=19) (hb:Blk w z 29 vs):(results Tryz.f41 tmps).run Tryz.prog w= .ok (.tuple #[Qd vs,.bool b,.int .i64 e]) w:=by
 have:=Zq Vi.Qn hl hb;simp [results,Tryz.results41,h4,h5,h6,this,asAddr]
set_option linter.unusedVariables false in
theorem rjoin_1_F:(∀(r sg eg:Nat) (D:Dv.Dev) (J:Ar.Job) (ep:Int) (w:World) (h:Dv.Rv w r sg eg D) (n e1:Int) (PW:Hid (∀W,Dv.Rv W r sg eg D→Calls Tryz.prog 96 #[P0 r,Qd (Ar.Qf J),.int .i64 n,.int .i64 ep] W fun e w'=>e= .returned (.int .i64 e1)∧Kept [] W w')) (he:¬e1=0),Calls Tryz.prog 38 #[P0 r,Qd (Ar.Qf J),.int .i64 n,.int .i64 ep] w fun x w'=>x= .returned (.tuple #[Qd (Vi.vwC Vi.zv),.bool false,.int .i64 e1])∧Dv.Rv w' r sg eg D∧Kept [r,sg,eg] w w')∧(∀(r sg eg:Nat) (D:Dv.Dev) (J:Ar.Job) (ep:Int) (w:World) (h:Dv.Rv w r sg eg D) (n e2:Int) (v:Vi.Vw) (PW:Hid (∀W,Dv.Rv W r sg eg D→Calls Tryz.prog 96 #[P0 r,Qd (Ar.Qf J),.int .i64 n,.int .i64 ep] W fun e w'=>e= .returned (.int .i64 0)∧Kept [] W w')) (PV:Hid (∀W,Dv.Rv W r sg eg D→Calls Tryz.prog 14 #[P0 r,Qd (Ar.Qf J)] W fun x w'=>x= .returned (.tuple #[Qd (Vi.vwC v),.int .i64 e2])∧Kept [] W w')) (HVL:Hid ((Vi.vwC v).length=19)) (he:¬e2=0),Calls Tryz.prog 38 #[P0 r,Qd (Ar.Qf J),.int .i64 n,.int .i64 ep] w fun x w'=>x= .returned (.tuple #[Qd (Vi.vwC Vi.zv),.bool false,.int .i64 e2])∧Dv.Rv w' r sg eg D∧Kept [r,sg,eg] w w')∧(∀(r sg eg:Nat) (D:Dv.Dev) (J:Ar.Job) (ep:Int) (w:World) (h:Dv.Rv w r sg eg D) (k:Nat) (v:Vi.Vw) (PW:Hid (∀W,Dv.Rv W r sg eg D→Calls Tryz.prog 96 #[P0 r,Qd (Ar.Qf J),.int .i64 k,.int .i64 ep] W fun e w'=>e= .returned (.int .i64 0)∧Kept [] W w')) (PV:Hid (∀W,Dv.Rv W r sg eg D→Calls Tryz.prog 14 #[P0 r,Qd (Ar.Qf J)] W fun x w'=>x= .returned (.tuple #[Qd (Vi.vwC v),.int .i64 0])∧Kept [] W w')) (HVL:Hid ((Vi.vwC v).length=19)) (mi:Bool) (me:Int) (X0:Hid ((Vi.vwC v)[3+k*2]?=some (.bool mi))) (X1:Hid ((Vi.vwC v)[3+k*2+1]?=some (.int .i64 me))) (hk8:(k:Int)<8) (hmi:mi=false) (HNU:Hid (v.nu=4611686018427387904)),Calls Tryz.prog 38 #[P0 r,Qd (Ar.Qf J),.int .i64 k,.int .i64 ep] w fun x w'=>x= .returned (.tuple #[Qd (Vi.vwC Vi.zv),.bool false,.int .i64 5])∧Dv.Rv w' r sg eg D∧Kept [r,sg,eg] w w')∧(∀(r sg eg:Nat) (D:Dv.Dev) (J:Ar.Job) (ep:Int) (w:World) (h:Dv.Rv w r sg eg D) (k:Nat) (v:Vi.Vw) (PW:Hid (∀W,Dv.Rv W r sg eg D→Calls Tryz.prog 96 #[P0 r,Qd (Ar.Qf J),.int .i64 k,.int .i64 ep] W fun e w'=>e= .returned (.int .i64 0)∧Kept [] W w')) (PV:Hid (∀W,Dv.Rv W r sg eg D→Calls Tryz.prog 14 #[P0 r,Qd (Ar.Qf J)] W fun x w'=>x= .returned (.tuple #[Qd (Vi.vwC v),.int .i64 0])∧Kept [] W w')) (HVL:Hid ((Vi.vwC v).length=19)) (mi:Bool) (me:Int) (X0:Hid ((Vi.vwC v)[3+k*2]?=some (.bool mi))) (X1:Hid ((Vi.vwC v)[3+k*2+1]?=some (.int .i64 me))) (hk8:(k:Int)<8) (hmi:mi=true) (hme:decide (ep≤me)=false) (HNU:Hid (v.nu=4611686018427387904)),Calls Tryz.prog 38 #[P0 r,Qd (Ar.Qf J),.int .i64 k,.int .i64 ep] w fun x w'=>x= .returned (.tuple #[Qd (Vi.vwC Vi.zv),.bool false,.int .i64 5])∧Dv.Rv w' r sg eg D∧Kept [r,sg,eg] w w')∧(∀(r sg eg:Nat) (D:Dv.Dev) (J:Ar.Job) (ep:Int) (w:World) (h:Dv.Rv w r sg eg D) (k:Nat) (v:Vi.Vw) (PW:Hid (∀W,Dv.Rv W r sg eg D→Calls Tryz.prog 96 #[P0 r,Qd (Ar.Qf J),.int .i64 k,.int .i64 ep] W fun e w'=>e= .returned (.int .i64 0)∧Kept [] W w')) (PV:Hid (∀W,Dv.Rv W r sg eg D→Calls Tryz.prog 14 #[P0 r,Qd (Ar.Qf J)] W fun x w'=>x= .returned (.tuple #[Qd (Vi.vwC v),.int .i64 0])∧Kept [] W w')) (HVL:Hid ((Vi.vwC v).length=19)) (mi:Bool) (me:Int) (X0:Hid ((Vi.vwC v)[3+k*2]?=some (.bool mi))) (X1:Hid ((Vi.vwC v)[3+k*2+1]?=some (.int .i64 me))) (hk8:(k:Int)<8) (hmi:mi=true) (hme:decide (ep≤me)=true),Calls Tryz.prog 38 #[P0 r,Qd (Ar.Qf J),.int .i64 k,.int .i64 ep] w fun x w'=>x= .returned (.tuple #[Qd (Vi.vwC v),.bool false,.int .i64 0])∧Dv.Rv w' r sg eg D∧Kept [r,sg,eg] w w')∧(∀(r sg eg:Nat) (D:Dv.Dev) (J:Ar.Job) (ep:Int) (w:World) (h:Dv.Rv w r sg eg D) (k:Nat) (v u y:Vi.Vw) (yb:Bool) (ye:Int) (D2:Dv.Dev) (PW:Hid (∀W,Dv.Rv W r sg eg D→Calls Tryz.prog 96 #[P0 r,Qd (Ar.Qf J),.int .i64 k,.int .i64 ep] W fun e w'=>e= .returned (.int .i64 0)∧Kept [] W w')) (PV:Hid (∀W,Dv.Rv W r sg eg D→Calls Tryz.prog 14 #[P0 r,Qd (Ar.Qf J)] W fun x w'=>x= .returned (.tuple #[Qd (Vi.vwC v),.int .i64 0])∧Kept [] W w')) (HVL:Hid ((Vi.vwC v).length=19)) (PS:Hid (∀W,Dv.Rv W r sg eg D→Calls Tryz.prog 97 #[P0 r,Qd (Ar.Qf J),.int .i64 k,.int .i64 ep,Qd (Vi.vwC v),Qd (Vi.vwC u)] W fun x w'=>x= .returned (.tuple #[Qd (Vi.vwC y),.bool yb,.int .i64 ye])∧Dv.Rv w' r sg eg D2∧Kept [r,sg,eg] W w')) (HYL:Hid ((Vi.vwC y).length=19)) (mi:Bool) (me:Int) (X0:Hid ((Vi.vwC v)[3+k*2]?=some (.bool mi))) (X1:Hid ((Vi.vwC v)[3+k*2+1]?=some (.int .i64 me))) (hk8:(k:Int)<8) (hmi:mi=false) (hnu:decide (v.nu=4611686018427387904)=false) (hnr:0≤v.nu∧v.nu≤4611686018427387904) (HK8:Hid (k<8)) (HL8:Hid (v.ms.length=8)) (HU:Hid ((⟨v.nu+1,false,(k:Int),v.ms.set k (true,ep)⟩:Vi.Vw)=u)) (HUL:Hid ((Vi.vwC u).length=19)),Calls Tryz.prog 38 #[P0 r,Qd (Ar.Qf J),.int .i64 k,.int .i64 ep] w fun x w'=>x= .returned (.tuple #[Qd (Vi.vwC y),.bool yb,.int .i64 ye])∧Dv.Rv w' r sg eg D2∧Kept [r,sg,eg] w w')∧(∀(r sg eg:Nat) (D:Dv.Dev) (J:Ar.Job) (ep:Int) (w:World) (h:Dv.Rv w r sg eg D) (k:Nat) (v u y:Vi.Vw) (yb:Bool) (ye:Int) (D2:Dv.Dev) (PW:Hid (∀W,Dv.Rv W r sg eg D→Calls Tryz.prog 96 #[P0 r,Qd (Ar.Qf J),.int .i64 k,.int .i64 ep] W fun e w'=>e= .returned (.int .i64 0)∧Kept [] W w')) (PV:Hid (∀W,Dv.Rv W r sg eg D→Calls Tryz.prog 14 #[P0 r,Qd (Ar.Qf J)] W fun x w'=>x= .returned (.tuple #[Qd (Vi.vwC v),.int .i64 0])∧Kept [] W w')) (HVL:Hid ((Vi.vwC v).length=19)) (PS:Hid (∀W,Dv.Rv W r sg eg D→Calls Tryz.prog 97 #[P0 r,Qd (Ar.Qf J),.int .i64 k,.int .i64 ep,Qd (Vi.vwC v),Qd (Vi.vwC u)] W fun x w'=>x= .returned (.tuple #[Qd (Vi.vwC y),.bool yb,.int .i64 ye])∧Dv.Rv w' r sg eg D2∧Kept [r,sg,eg] W w')) (HYL:Hid ((Vi.vwC y).length=19)) (mi:Bool) (me:Int) (X0:Hid ((Vi.vwC v)[3+k*2]?=some (.bool mi))) (X1:Hid ((Vi.vwC v)[3+k*2+1]?=some (.int .i64 me))) (hk8:(k:Int)<8) (hmi:mi=true) (hme:decide (ep≤me)=false) (hnu:decide (v.nu=4611686018427387904)=false) (hnr:0≤v.nu∧v.nu≤4611686018427387904) (HK8:Hid (k<8)) (HL8:Hid (v.ms.length=8)) (HU:Hid ((⟨v.nu+1,false,(k:Int),v.ms.set k (true,ep)⟩:Vi.Vw)=u)) (HUL:Hid ((Vi.vwC u).length=19)),Calls Tryz.prog 38 #[P0 r,Qd (Ar.Qf J),.int .i64 k,.int .i64 ep] w fun x w'=>x= .returned (.tuple #[Qd (Vi.vwC y),.bool yb,.int .i64 ye])∧Dv.Rv w' r sg eg D2∧Kept [r,sg,eg] w w'):=by
 refine⟨fun r sg eg D J ep w h n e1 PW he=> ?_,fun r sg eg D J ep w h n e2 v PW PV HVL he=> ?_,fun r sg eg D J ep w h k v PW PV HVL mi me X0 X1 hk8 hmi HNU=> ?_,fun r sg eg D J ep w h k v PW PV HVL mi me X0 X1 hk8 hmi hme HNU=> ?_,fun r sg eg D J ep w h k v PW PV HVL mi me X0 X1 hk8 hmi hme=> ?_,fun r sg eg D J ep w h k v u y yb ye D2 PW PV HVL PS HYL mi me X0 X1 hk8 hmi hnu hnr HK8 HL8 HU HUL=> ?_,fun r sg eg D J ep w h k v u y yb ye D2 PW PV HVL PS HYL mi me X0 X1 hk8 hmi hme hnu hnr HK8 HL8 HU HUL=> ?_⟩;have M:Hid (Ph r sg eg D w w []):=hide (Ph.init h);clear h
 rotate_left
 have M:Hid (Ph r sg eg D w w []):=hide (Ph.init h);clear h
 rotate_left
 have M:Hid (Ph r sg eg D w w []):=hide (Ph.init h);clear h;subst hmi
 rotate_left
 have M:Hid (Ph r sg eg D w w []):=hide (Ph.init h);clear h;subst hmi
 rotate_left
 have M:Hid (Ph r sg eg D w w []):=hide (Ph.init h);clear h;subst hmi
 rotate_left
 have M:Hid (Ph r sg eg D w w []):=hide (Ph.init h);clear h;subst hmi;obtain⟨hn0,hn1⟩:=hnr;have hnu2:¬v.nu=4611686018427387904:=of_decide_eq_false hnu
 rotate_left
 have M:Hid (Ph r sg eg D w w []):=hide (Ph.init h);clear h;subst hmi;obtain⟨hn0,hn1⟩:=hnr;have hnu2:¬v.nu=4611686018427387904:=of_decide_eq_false hnu
 rotate_left
 all_goals
   go_enter Tryz.func38,Tryz.ntmps38
   go_wp2_with (first |(refine Qp rfl (.tmp 1) rfl (Ar.Qf J) rfl ?_;intro W1 b1 e1 B1 K1;replace M:=hide ((Qa M).new e1 B1 K1);clear e1 B1 K1;refine Stp.go ?_))
   constructor
   go_wp2_with (first |(refine Qv (Vi.vwC Vi.zv) Vi.QE 8 rfl rfl rfl ?_;intro W2 b2 e2 B2 K2;replace M:=hide ((Qa M).new e2 B2 K2);clear e2 B2 K2;refine Stp.go ?_))
   constructor
   go_wp2_with (first |(refine Qg Zv rfl (.tmp 5) rfl b1 0 rfl (Ar.Qf J) rfl ((Qa M).at 0 _ rfl).range ?_;refine Stp.go ?_))
   constructor
   go_wp2_with (first |(go_at_call 96;refine(Qa PW _ (Qa M).rv).mono ?_;rintro e W3 ⟨rfl,K3⟩;replace M:=hide ((Qa M).step K3);clear K3;refine Stp.go ?_))
   constructor
 · go_wp2_with (first |(refine QG (Vi.vwC Vi.zv) Vi.Zi rfl rfl ?_;refine Stp.go ?_))
   constructor
   go_wp2_with (first |(refine QQ Vi.Qn rfl (.tmp 8) (.tmp 21) rfl rfl b2 1 (Vi.vwC Vi.zv) rfl rfl rfl (Vi.Ql _) (Qa M) rfl rfl ?_;intro W4 N4;replace M:Hid (Ph r sg eg D w W4 [(b1,23,Ar.Qf J),(b2,29,Vi.vwC Vi.zv)]):=hide N4;clear N4;refine Stp.go ?_))
   constructor
   go_wp2_with fail
   refine bodyPost_ret (res38 _ b2 (Vi.vwC Vi.zv) false e1 _ rfl rfl rfl rfl ((Qa M).at 1 _ rfl)) rfl ?_;exact⟨rfl,(Qa M).rv,(Qa M).kept⟩
 all_goals
   go_wp2_with (first |(refine Qg Zv rfl (.tmp 5) rfl b1 0 rfl (Ar.Qf J) rfl ((Qa M).at 0 _ rfl).range ?_;refine Stp.go ?_))
   constructor
   go_wp2_with (first |(go_at_call 14;refine(Qa PV _ (Qa M).rv).mono ?_;rintro e W4 ⟨rfl,K4⟩;replace M:=hide ((Qa M).step K4);clear K4;refine Stp.go ?_))
   constructor
 · go_wp2_with (first |(refine QM Vi.Qn (Vi.vwC Vi.zv) rfl Vi.QE 12 rfl rfl rfl (.tmp 27) rfl rfl rfl (Vi.vwC v) (Qa HVL) (Vi.Ql _) (by kernel_rfl) (by kernel_rfl) ?_;intro W5 b5 e5 B5 K5;replace M:=hide ((Qa M).new e5 B5 K5);clear e5 B5 K5;refine Stp.go ?_))
   constructor
   go_wp2_with (first |(refine QG (Vi.vwC Vi.zv) Vi.Zi rfl rfl ?_;refine Stp.go ?_))
   constructor
   go_wp2_with (first |(refine QQ Vi.Qn rfl (.tmp 8) (.tmp 31) rfl rfl b2 1 (Vi.vwC Vi.zv) rfl rfl rfl (Vi.Ql _) (Qa M) rfl rfl ?_;intro W6 N6;replace M:Hid (Ph r sg eg D w W6 [(b1,23,Ar.Qf J),(b2,29,Vi.vwC Vi.zv),(b5,29,Vi.vwC v)]):=hide N6;clear N6;refine Stp.go ?_))
   constructor
   go_wp2_with fail
   refine bodyPost_ret (res38 _ b2 (Vi.vwC Vi.zv) false e2 _ rfl rfl rfl rfl ((Qa M).at 1 _ rfl)) rfl ?_;exact⟨rfl,(Qa M).rv,(Qa M).kept⟩
 · go_wp2_with (first |(refine QM Vi.Qn (Vi.vwC Vi.zv) rfl Vi.QE 12 rfl rfl rfl (.tmp 27) rfl rfl rfl (Vi.vwC v) (Qa HVL) (Vi.Ql _) (by kernel_rfl) (by kernel_rfl) ?_;intro W5 b5 e5 B5 K5;replace M:=hide ((Qa M).new e5 B5 K5);clear e5 B5 K5;have c0:=Qb ((Qa M).at 2 _ rfl) 0 (.int .i64 v.nu) rfl;have c1:=Qb ((Qa M).at 2 _ rfl) _ _ (Qa X0);have c2:=Qb ((Qa M).at 2 _ rfl) _ _ (Qa X1);rw [Qa HNU] at c0;refine Stp.go ?_))
   constructor
   go_wp2_with (first |(refine QG (Vi.vwC Vi.zv) Vi.Zi rfl rfl ?_;refine Stp.go ?_))
   constructor
   go_wp2_with (first |(refine QQ Vi.Qn rfl (.tmp 8) (.tmp 51) rfl rfl b2 1 (Vi.vwC Vi.zv) rfl rfl rfl (Vi.Ql _) (Qa M) rfl rfl ?_;intro W6 N6;replace M:Hid (Ph r sg eg D w W6 [(b1,23,Ar.Qf J),(b2,29,Vi.vwC Vi.zv),(b5,29,Vi.vwC v)]):=hide N6;clear N6;refine Stp.go ?_))
   constructor
   go_wp2_with fail
   refine bodyPost_ret (res38 _ b2 (Vi.vwC Vi.zv) false 5 _ rfl rfl rfl rfl ((Qa M).at 1 _ rfl)) rfl ?_;exact⟨rfl,(Qa M).rv,(Qa M).kept⟩
 · go_wp2_with (first |(refine QM Vi.Qn (Vi.vwC Vi.zv) rfl Vi.QE 12 rfl rfl rfl (.tmp 27) rfl rfl rfl (Vi.vwC v) (Qa HVL) (Vi.Ql _) (by kernel_rfl) (by kernel_rfl) ?_;intro W5 b5 e5 B5 K5;replace M:=hide ((Qa M).new e5 B5 K5);clear e5 B5 K5;have c0:=Qb ((Qa M).at 2 _ rfl) 0 (.int .i64 v.nu) rfl;have c1:=Qb ((Qa M).at 2 _ rfl) _ _ (Qa X0);have c2:=Qb ((Qa M).at 2 _ rfl) _ _ (Qa X1);rw [Qa HNU] at c0;refine Stp.go ?_))
   constructor
   go_wp2_with (first |(refine QG (Vi.vwC Vi.zv) Vi.Zi rfl rfl ?_;refine Stp.go ?_))
   constructor
   go_wp2_with (first |(refine QQ Vi.Qn rfl (.tmp 8) (.tmp 51) rfl rfl b2 1 (Vi.vwC Vi.zv) rfl rfl rfl (Vi.Ql _) (Qa M) rfl rfl ?_;intro W6 N6;replace M:Hid (Ph r sg eg D w W6 [(b1,23,Ar.Qf J),(b2,29,Vi.vwC Vi.zv),(b5,29,Vi.vwC v)]):=hide N6;clear N6;refine Stp.go ?_))
   constructor
   go_wp2_with fail
   refine bodyPost_ret (res38 _ b2 (Vi.vwC Vi.zv) false 5 _ rfl rfl rfl rfl ((Qa M).at 1 _ rfl)) rfl ?_;exact⟨rfl,(Qa M).rv,(Qa M).kept⟩
 all_goals
   go_wp2_with (first |(refine QM Vi.Qn (Vi.vwC Vi.zv) rfl Vi.QE 12 rfl rfl rfl (.tmp 27) rfl rfl rfl (Vi.vwC v) (Qa HVL) (Vi.Ql _) (by kernel_rfl) (by kernel_rfl) ?_;intro W5 b5 e5 B5 K5;replace M:=hide ((Qa M).new e5 B5 K5);clear e5 B5 K5;have c0:=Qb ((Qa M).at 2 _ rfl) 0 (.int .i64 v.nu) rfl;have c1:=Qb ((Qa M).at 2 _ rfl) _ _ (Qa X0);have c2:=Qb ((Qa M).at 2 _ rfl) _ _ (Qa X1);refine Stp.go ?_))
   constructor
   go_wp2_with (first |(refine Qg Vi.Qn rfl (.tmp 12) rfl b5 0 rfl (Vi.vwC v) (Qa HVL) ((Qa M).at 2 _ rfl).range ?_;refine Stp.go ?_))
   constructor
 · go_wp2_with (first |(refine QQ Vi.Qn rfl (.tmp 8) (.tmp 47) rfl rfl b2 1 (Vi.vwC v) rfl rfl (Qa HVL) (Vi.Ql _) (Qa M) rfl rfl ?_;intro W6 N6;replace M:Hid (Ph r sg eg D w W6 [(b1,23,Ar.Qf J),(b2,29,Vi.vwC v),(b5,29,Vi.vwC v)]):=hide N6;clear N6;refine Stp.go ?_))
   constructor
   go_wp2_with fail
   refine bodyPost_ret (res38 _ b2 (Vi.vwC v) false 0 _ rfl rfl rfl (Qa HVL) ((Qa M).at 1 _ rfl)) rfl ?_;exact⟨rfl,(Qa M).rv,(Qa M).kept⟩
 all_goals
   go_wp2_with (first |(refine QM Vi.Qn (Vi.vwC Vi.zv) rfl Vi.QE 13 rfl rfl rfl (.tmp 52) rfl rfl rfl (Vi.vwC v) (Qa HVL) (Vi.Ql _) (by kernel_rfl) (by kernel_rfl) ?_;intro W6 b6 e6 B6 K6;replace M:=hide ((Qa M).new e6 B6 K6);clear e6 B6 K6;clear c0 c1 c2;have c0:=Qb ((Qa M).at 2 _ rfl) 0 (.int .i64 v.nu) rfl;refine Stp.go ?_))
   constructor
   go_wp2_with (first |(refine wpStoreP1 Le.size2 rfl (.tmp 56) (.tmp 55) rfl rfl b6 0 3 (.int .i64 (v.nu+1)) ⟨rfl,rfl⟩ rfl rfl (Qa M) rfl (by simp [Vi.vwC]) ?_;intro W7 N7;replace M:Hid (Ph r sg eg D w W7 [(b1,23,Ar.Qf J),(b2,29,Vi.vwC Vi.zv),(b5,29,Vi.vwC v),(b6,29,Vi.vwC ⟨v.nu+1,v.op,v.fd,v.ms⟩)]):=hide N7;clear N7;clear c0;refine Stp.go ?_))
   constructor
   go_wp2_with (first |(refine wpStoreP1 Le.size4 rfl (.tmp 57) (.const (.bool false)) rfl rfl b6 1 3 (.bool false) ⟨rfl,rfl⟩ rfl rfl (Qa M) rfl (by simp [Vi.vwC]) ?_;intro W8 N8;replace M:Hid (Ph r sg eg D w W8 [(b1,23,Ar.Qf J),(b2,29,Vi.vwC Vi.zv),(b5,29,Vi.vwC v),(b6,29,Vi.vwC ⟨v.nu+1,false,v.fd,v.ms⟩)]):=hide N8;clear N8;refine Stp.go ?_))
   constructor
   go_wp2_with (first |(refine wpStoreP1 Le.size3 rfl (.tmp 59) (.tmp 58) rfl rfl b6 2 3 (.int .i64 k) ⟨rfl,rfl⟩ rfl rfl (Qa M) rfl (by simp [Vi.vwC]) ?_;intro W9 N9;replace M:Hid (Ph r sg eg D w W9 [(b1,23,Ar.Qf J),(b2,29,Vi.vwC Vi.zv),(b5,29,Vi.vwC v),(b6,29,Vi.vwC ⟨v.nu+1,false,k,v.ms⟩)]):=hide N9;clear N9;refine Stp.go ?_))
   constructor
   go_wp2_with (first |(refine Ar.Zm rfl #[(0,.const (.bool true)),(1,.tmp 61)] rfl #[(0,.bool true),(1,.int .i64 ep)] (by simp [Act.eval]) (Vi.QD (true,ep)) (build26p _ _ _) ?_;refine Stp.go ?_))
   constructor
   go_wp2_with (first |(refine wpStoreMemP rfl (.tmp 64) (.tmp 62) rfl rfl b6 k 3 ⟨v.nu+1,false,k,v.ms⟩ (true,ep) rfl rfl (Qa M) rfl (Qa HK8) (Qa HL8) ?_;intro W10 N10;replace M:Hid (Ph r sg eg D w W10 [(b1,23,Ar.Qf J),(b2,29,Vi.vwC Vi.zv),(b5,29,Vi.vwC v),(b6,29,Vi.vwC u)]):=(by have h9:=N10;rw [show (⟨v.nu+1,false,(k:Int),v.ms.set k (true,ep)⟩:Vi.Vw)=u from Qa HU] at h9;exact h9);clear N10;refine Stp.go ?_))
   constructor
   go_wp2_with (first |(refine Qg Zv rfl (.tmp 5) rfl b1 0 rfl (Ar.Qf J) rfl ((Qa M).at 0 _ rfl).range ?_;refine Stp.go ?_))
   constructor
   go_wp2_with (first |(refine Qg Vi.Qn rfl (.tmp 12) rfl b5 0 rfl (Vi.vwC v) (Qa HVL) ((Qa M).at 2 _ rfl).range ?_;refine Stp.go ?_))
   constructor
   go_wp2_with (first |(refine Qg Vi.Qn rfl (.tmp 13) rfl b6 0 rfl (Vi.vwC u) (Qa HUL) ((Qa M).at 3 _ rfl).range ?_;refine Stp.go ?_))
   constructor
   go_wp2_with (first |(go_at_call 97;refine(Qa PS _ (Qa M).rv).mono ?_;rintro e W11 ⟨rfl,R11,K11⟩;replace M:Hid (Ph r sg eg D2 w W11 [(b1,23,Ar.Qf J),(b2,29,Vi.vwC Vi.zv),(b5,29,Vi.vwC v),(b6,29,Vi.vwC u)]):=hide ((Qa M).dev K11 (by simp) R11);clear K11 R11;refine Stp.go ?_))
   constructor
   go_wp2_with (first |(refine QQ Vi.Qn rfl (.tmp 8) (.tmp 72) rfl rfl b2 1 (Vi.vwC y) rfl rfl (Qa HYL) (Vi.Ql _) (Qa M) rfl rfl ?_;intro W12 N12;replace M:Hid (Ph r sg eg D2 w W12 [(b1,23,Ar.Qf J),(b2,29,Vi.vwC y),(b5,29,Vi.vwC v),(b6,29,Vi.vwC u)]):=hide N12;clear N12;refine Stp.go ?_))
   constructor
   go_wp2_with fail
   refine bodyPost_ret (res38 _ b2 (Vi.vwC y) yb ye _ rfl rfl rfl (Qa HYL) ((Qa M).at 1 _ rfl)) rfl ?_;exact⟨rfl,(Qa M).rv,(Qa M).kept⟩
def rjoin (D:Dv.Dev) (J:Ar.Job) (n ep:Int):(Vi.Vw×Bool)×Int×Dv.Dev:=
 if rwho D J n ep≠0 then ((Vi.zv,false),rwho D J n ep,D) else if (oV D).2≠0 then ((Vi.zv,false),(oV D).2,D)
 else if ((oV D).1.mem n).1=true∧ep≤((oV D).1.mem n).2 then (((oV D).1,false),0,D)
 else if (oV D).1.nu=4611686018427387904 then ((Vi.zv,false),5,D)
 else mswap D n ep (oV D).1 ⟨(oV D).1.nu+1,false,n,(oV D).1.ms.set n.toNat (true,ep)⟩
theorem rwho_0 {D:Dv.Dev} {J:Ar.Job} {n ep:Int} (h:rwho D J n ep=0):0≤n∧n<J.n∧1≤ep∧ep=(D.epoch n).1:=by
 unfold rwho at h;split at h
 · simp at h
 · split at h
   · simp at h
   · split at h
     · simp at h
     · omega
theorem epoch_le {D:Dv.Dev} (h:D.Ok) (n:Int):0≤(D.epoch n).1∧(D.epoch n).1≤2147483647:=by
 unfold Dv.Dev.epoch;split
 · show 0≤D.ep n∧D.ep n≤2147483647;unfold Dv.Dev.ep;rw [List.getD_eq_getElem?_getD];cases hq:D.E[n.toNat]? with
   | none=>simp
   | some e=>exact h.e0 e (List.mem_of_getElem? hq)
 · simp
theorem rjoin38 (r sg eg:Nat) (D:Dv.Dev) (J:Ar.Job) (n ep:Int) (w:World) (h:Dv.Rv w r sg eg D) (hJ:J.n≤8):Calls Tryz.prog 38 #[P0 r,Qd (Ar.Qf J),.int .i64 n,.int .i64 ep] w fun x w'=>x= .returned (.tuple #[Qd (Vi.vwC (rjoin D J n ep).1.1),.bool (rjoin D J n ep).1.2,.int .i64 (rjoin D J n ep).2.1])∧Dv.Rv w' r sg eg (rjoin D J n ep).2.2∧Kept [r,sg,eg] w w':=by
 have PW:=fun W (h0:Dv.Rv W r sg eg D)=>who96 r sg eg D J n ep W h0;have PV:=fun W (h0:Dv.Rv W r sg eg D)=>rview14 r sg eg D J W h0;have hok:=oV_okD h.ok;unfold rjoin;by_cases h1:rwho D J n ep=0
 · rw [if_neg (fun q=>q h1)];obtain⟨g0,g1,g2,g3⟩:=rwho_0 h1;rw [h1] at PW;by_cases h2:(oV D).2=0
   · rw [if_neg (fun q=>q h2)];have hmay:=getV_may _ h2;rw [h2] at PV;replace hmay:(oV D).1.may=true:=hmay;obtain⟨v,hv⟩:∃v,v=(oV D).1:=⟨_,rfl⟩;rw [← hv] at PV hok hmay⊢;obtain⟨k,rfl⟩:∃k:Nat,n=(k:Int):=⟨n.toNat,by omega⟩;have hk8:k<8:=by omega
     obtain⟨m,hm⟩:∃m,v.ms[k]?=some m:=⟨_,List.getElem?_eq_getElem (by rw [hok.len];exact hk8)⟩;have hmm:v.mem (k:Int)=m:=by unfold Vi.Vw.mem;rw [Int.toNat_natCast,List.getD_eq_getElem?_getD,hm];rfl
     obtain⟨x0,x1⟩:=Vi.vwC_at hm;rw [Nat.mul_comm] at x0 x1;have HVL:=Vi.Qk hok.len;rw [hmm,Int.toNat_natCast];have hep:=epoch_le h.ok (k:Int);have hcell:∀b:Bool,m.1=b→decide (ep≤m.2)=decide (ep≤m.2):=fun _ _=>rfl;by_cases h3:m.1=true∧ep≤m.2
     · rw [if_pos h3];exact rjoin_1_F.2.2.2.2.1 r sg eg D J ep w h k v PW PV HVL m.1 m.2 x0 x1 (by omega) h3.1 (decide_eq_true h3.2)
     · rw [if_neg h3];by_cases h4:v.nu=4611686018427387904
       · rw [if_pos h4];cases hm1:m.1 with
         | false=>exact rjoin_1_F.2.2.1 r sg eg D J ep w h k v PW PV HVL m.1 m.2 x0 x1 (by omega) hm1 h4
         | true=>exact rjoin_1_F.2.2.2.1 r sg eg D J ep w h k v PW PV HVL m.1 m.2 x0 x1 (by omega) hm1 (decide_eq_false (fun q=>h3 ⟨hm1,q⟩)) h4
       · rw [if_neg h4];have hkk:Vi.Zy (true,ep)=true:=by unfold Vi.Zy Vi.isEp;simp;omega
         have hno:Vi.isNo (k:Int)=true:=decide_eq_true (by omega);have hum:=next_may hmay h4 (k:Int) (k:Int) (true,ep) hkk hno (by unfold Vi.Vw.mem;simp only [Int.toNat_natCast];rw [List.getD_eq_getElem?_getD,List.getElem?_set_self (by rw [hok.len];exact hk8)];rfl);have huo:=nx_ok hok hmay (k:Int) (k:Int) (true,ep) hkk hno;rw [Int.toNat_natCast] at hum huo;have PS:=fun W (h0:Dv.Rv W r sg eg D)=>rswap97 r sg eg D J (k:Int) ep v _ W h0 hok huo hmay hum;have HYL:=Vi.Qk (mswap_len D (k:Int) ep v _ huo.len);have HUL:=Vi.Qk huo.len;cases hm1:m.1 with
         | false=>exact rjoin_1_F.2.2.2.2.2.1 r sg eg D J ep w h k v _ _ _ _ _ PW PV HVL PS HYL m.1 m.2 x0 x1 (by omega) hm1 (decide_eq_false h4) (Vi.may_nu hmay) hk8 hok.len rfl HUL
         | true=>exact rjoin_1_F.2.2.2.2.2.2 r sg eg D J ep w h k v _ _ _ _ _ PW PV HVL PS HYL m.1 m.2 x0 x1 (by omega) hm1 (decide_eq_false (fun q=>h3 ⟨hm1,q⟩)) (decide_eq_false h4) (Vi.may_nu hmay) hk8 hok.len rfl HUL
   · rw [if_pos h2];exact rjoin_1_F.2.1 r sg eg D J ep w h n _ _ PW PV (Vi.Qk hok.len) h2
 · rw [if_pos h1];exact rjoin_1_F.1 r sg eg D J ep w h n _ PW h1
open Go.RowKit
open Le (Mm Qh Qo)
set_option linter.unusedVariables false in
theorem ropen_1_F:(∀(r sg eg:Nat) (D:Dv.Dev) (J:Ar.Job) (ep:Int) (w:World) (h:Dv.Rv w r sg eg D) (n e1:Int) (PW:Hid (∀W,Dv.Rv W r sg eg D→Calls Tryz.prog 96 #[P0 r,Qd (Ar.Qf J),.int .i64 n,.int .i64 ep] W fun e w'=>e= .returned (.int .i64 e1)∧Kept [] W w')) (he:¬e1=0),Calls Tryz.prog 41 #[P0 r,Qd (Ar.Qf J),.int .i64 n,.int .i64 ep] w fun x w'=>x= .returned (.tuple #[Qd (Vi.vwC Vi.zv),.bool false,.int .i64 e1])∧Dv.Rv w' r sg eg D∧Kept [r,sg,eg] w w')∧(∀(r sg eg:Nat) (D:Dv.Dev) (J:Ar.Job) (ep:Int) (w:World) (h:Dv.Rv w r sg eg D) (n e2:Int) (v:Vi.Vw) (PW:Hid (∀W,Dv.Rv W r sg eg D→Calls Tryz.prog 96 #[P0 r,Qd (Ar.Qf J),.int .i64 n,.int .i64 ep] W fun e w'=>e= .returned (.int .i64 0)∧Kept [] W w')) (PV:Hid (∀W,Dv.Rv W r sg eg D→Calls Tryz.prog 14 #[P0 r,Qd (Ar.Qf J)] W fun x w'=>x= .returned (.tuple #[Qd (Vi.vwC v),.int .i64 e2])∧Kept [] W w')) (HVL:Hid ((Vi.vwC v).length=19)) (he:¬e2=0),Calls Tryz.prog 41 #[P0 r,Qd (Ar.Qf J),.int .i64 n,.int .i64 ep] w fun x w'=>x= .returned (.tuple #[Qd (Vi.vwC Vi.zv),.bool false,.int .i64 e2])∧Dv.Rv w' r sg eg D∧Kept [r,sg,eg] w w')∧(∀(r sg eg:Nat) (D:Dv.Dev) (J:Ar.Job) (ep:Int) (w:World) (h:Dv.Rv w r sg eg D) (k:Nat) (v:Vi.Vw) (PW:Hid (∀W,Dv.Rv W r sg eg D→Calls Tryz.prog 96 #[P0 r,Qd (Ar.Qf J),.int .i64 k,.int .i64 ep] W fun e w'=>e= .returned (.int .i64 0)∧Kept [] W w')) (PV:Hid (∀W,Dv.Rv W r sg eg D→Calls Tryz.prog 14 #[P0 r,Qd (Ar.Qf J)] W fun x w'=>x= .returned (.tuple #[Qd (Vi.vwC v),.int .i64 0])∧Kept [] W w')) (HVL:Hid ((Vi.vwC v).length=19)) (mi:Bool) (me:Int) (X0:Hid ((Vi.vwC v)[3+k*2]?=some (.bool mi))) (X1:Hid ((Vi.vwC v)[3+k*2+1]?=some (.int .i64 me))) (HOP:Hid (v.op=true)),Calls Tryz.prog 41 #[P0 r,Qd (Ar.Qf J),.int .i64 k,.int .i64 ep] w fun x w'=>x= .returned (.tuple #[Qd (Vi.vwC v),.bool false,.int .i64 0])∧Dv.Rv w' r sg eg D∧Kept [r,sg,eg] w w')∧(∀(r sg eg:Nat) (D:Dv.Dev) (J:Ar.Job) (ep:Int) (w:World) (h:Dv.Rv w r sg eg D) (k:Nat) (v:Vi.Vw) (PW:Hid (∀W,Dv.Rv W r sg eg D→Calls Tryz.prog 96 #[P0 r,Qd (Ar.Qf J),.int .i64 k,.int .i64 ep] W fun e w'=>e= .returned (.int .i64 0)∧Kept [] W w')) (PV:Hid (∀W,Dv.Rv W r sg eg D→Calls Tryz.prog 14 #[P0 r,Qd (Ar.Qf J)] W fun x w'=>x= .returned (.tuple #[Qd (Vi.vwC v),.int .i64 0])∧Kept [] W w')) (HVL:Hid ((Vi.vwC v).length=19)) (mi:Bool) (me:Int) (X0:Hid ((Vi.vwC v)[3+k*2]?=some (.bool mi))) (X1:Hid ((Vi.vwC v)[3+k*2+1]?=some (.int .i64 me))) (hk8:(k:Int)<8) (HOP:Hid (v.op=false)) (hfd:v.fd=(k:Int)) (hmi:mi=true) (hme:me=ep) (PA:Hid (∀W,Dv.Rv W r sg eg D→Calls Tryz.prog 52 #[P0 r,Qd (Ar.Qf J),Qd (Vi.vwC v)] W fun x w'=>x= .returned (.bool false)∧Kept [] W w')),Calls Tryz.prog 41 #[P0 r,Qd (Ar.Qf J),.int .i64 k,.int .i64 ep] w fun x w'=>x= .returned (.tuple #[Qd (Vi.vwC Vi.zv),.bool false,.int .i64 11])∧Dv.Rv w' r sg eg D∧Kept [r,sg,eg] w w')∧(∀(r sg eg:Nat) (D:Dv.Dev) (J:Ar.Job) (ep:Int) (w:World) (h:Dv.Rv w r sg eg D) (k:Nat) (v u y:Vi.Vw) (yb:Bool) (ye:Int) (D2:Dv.Dev) (PW:Hid (∀W,Dv.Rv W r sg eg D→Calls Tryz.prog 96 #[P0 r,Qd (Ar.Qf J),.int .i64 k,.int .i64 ep] W fun e w'=>e= .returned (.int .i64 0)∧Kept [] W w')) (PV:Hid (∀W,Dv.Rv W r sg eg D→Calls Tryz.prog 14 #[P0 r,Qd (Ar.Qf J)] W fun x w'=>x= .returned (.tuple #[Qd (Vi.vwC v),.int .i64 0])∧Kept [] W w')) (HVL:Hid ((Vi.vwC v).length=19)) (PS:Hid (∀W,Dv.Rv W r sg eg D→Calls Tryz.prog 97 #[P0 r,Qd (Ar.Qf J),.int .i64 k,.int .i64 ep,Qd (Vi.vwC v),Qd (Vi.vwC u)] W fun x w'=>x= .returned (.tuple #[Qd (Vi.vwC y),.bool yb,.int .i64 ye])∧Dv.Rv w' r sg eg D2∧Kept [r,sg,eg] W w')) (HYL:Hid ((Vi.vwC y).length=19)) (mi:Bool) (me:Int) (X0:Hid ((Vi.vwC v)[3+k*2]?=some (.bool mi))) (X1:Hid ((Vi.vwC v)[3+k*2+1]?=some (.int .i64 me))) (hk8:(k:Int)<8) (HOP:Hid (v.op=false)) (hfd:v.fd=(k:Int)) (hmi:mi=true) (hme:me=ep) (PA:Hid (∀W,Dv.Rv W r sg eg D→Calls Tryz.prog 52 #[P0 r,Qd (Ar.Qf J),Qd (Vi.vwC v)] W fun x w'=>x= .returned (.bool true)∧Kept [] W w')) (HU:Hid ((⟨v.nu,true,v.fd,v.ms⟩:Vi.Vw)=u)) (HUL:Hid ((Vi.vwC u).length=19)),Calls Tryz.prog 41 #[P0 r,Qd (Ar.Qf J),.int .i64 k,.int .i64 ep] w fun x w'=>x= .returned (.tuple #[Qd (Vi.vwC y),.bool yb,.int .i64 ye])∧Dv.Rv w' r sg eg D2∧Kept [r,sg,eg] w w')∧(∀(r sg eg:Nat) (D:Dv.Dev) (J:Ar.Job) (ep:Int) (w:World) (h:Dv.Rv w r sg eg D) (k:Nat) (v:Vi.Vw) (PW:Hid (∀W,Dv.Rv W r sg eg D→Calls Tryz.prog 96 #[P0 r,Qd (Ar.Qf J),.int .i64 k,.int .i64 ep] W fun e w'=>e= .returned (.int .i64 0)∧Kept [] W w')) (PV:Hid (∀W,Dv.Rv W r sg eg D→Calls Tryz.prog 14 #[P0 r,Qd (Ar.Qf J)] W fun x w'=>x= .returned (.tuple #[Qd (Vi.vwC v),.int .i64 0])∧Kept [] W w')) (HVL:Hid ((Vi.vwC v).length=19)) (mi:Bool) (me:Int) (X0:Hid ((Vi.vwC v)[3+k*2]?=some (.bool mi))) (X1:Hid ((Vi.vwC v)[3+k*2+1]?=some (.int .i64 me))) (_hk8:(k:Int)<8) (HOP:Hid (v.op=false)) (hfd:¬v.fd=(k:Int)),Calls Tryz.prog 41 #[P0 r,Qd (Ar.Qf J),.int .i64 k,.int .i64 ep] w fun x w'=>x= .returned (.tuple #[Qd (Vi.vwC Vi.zv),.bool false,.int .i64 6])∧Dv.Rv w' r sg eg D∧Kept [r,sg,eg] w w')∧(∀(r sg eg:Nat) (D:Dv.Dev) (J:Ar.Job) (ep:Int) (w:World) (h:Dv.Rv w r sg eg D) (k:Nat) (v:Vi.Vw) (PW:Hid (∀W,Dv.Rv W r sg eg D→Calls Tryz.prog 96 #[P0 r,Qd (Ar.Qf J),.int .i64 k,.int .i64 ep] W fun e w'=>e= .returned (.int .i64 0)∧Kept [] W w')) (PV:Hid (∀W,Dv.Rv W r sg eg D→Calls Tryz.prog 14 #[P0 r,Qd (Ar.Qf J)] W fun x w'=>x= .returned (.tuple #[Qd (Vi.vwC v),.int .i64 0])∧Kept [] W w')) (HVL:Hid ((Vi.vwC v).length=19)) (mi:Bool) (me:Int) (X0:Hid ((Vi.vwC v)[3+k*2]?=some (.bool mi))) (X1:Hid ((Vi.vwC v)[3+k*2+1]?=some (.int .i64 me))) (hk8:(k:Int)<8) (HOP:Hid (v.op=false)) (hfd:v.fd=(k:Int)) (hmi:mi=false),Calls Tryz.prog 41 #[P0 r,Qd (Ar.Qf J),.int .i64 k,.int .i64 ep] w fun x w'=>x= .returned (.tuple #[Qd (Vi.vwC Vi.zv),.bool false,.int .i64 6])∧Dv.Rv w' r sg eg D∧Kept [r,sg,eg] w w')∧(∀(r sg eg:Nat) (D:Dv.Dev) (J:Ar.Job) (ep:Int) (w:World) (h:Dv.Rv w r sg eg D) (k:Nat) (v:Vi.Vw) (PW:Hid (∀W,Dv.Rv W r sg eg D→Calls Tryz.prog 96 #[P0 r,Qd (Ar.Qf J),.int .i64 k,.int .i64 ep] W fun e w'=>e= .returned (.int .i64 0)∧Kept [] W w')) (PV:Hid (∀W,Dv.Rv W r sg eg D→Calls Tryz.prog 14 #[P0 r,Qd (Ar.Qf J)] W fun x w'=>x= .returned (.tuple #[Qd (Vi.vwC v),.int .i64 0])∧Kept [] W w')) (HVL:Hid ((Vi.vwC v).length=19)) (mi:Bool) (me:Int) (X0:Hid ((Vi.vwC v)[3+k*2]?=some (.bool mi))) (X1:Hid ((Vi.vwC v)[3+k*2+1]?=some (.int .i64 me))) (hk8:(k:Int)<8) (HOP:Hid (v.op=false)) (hfd:v.fd=(k:Int)) (hmi:mi=true) (hme:¬me=ep),Calls Tryz.prog 41 #[P0 r,Qd (Ar.Qf J),.int .i64 k,.int .i64 ep] w fun x w'=>x= .returned (.tuple #[Qd (Vi.vwC Vi.zv),.bool false,.int .i64 6])∧Dv.Rv w' r sg eg D∧Kept [r,sg,eg] w w'):=by
 refine⟨fun r sg eg D J ep w h n e1 PW he=> ?_,fun r sg eg D J ep w h n e2 v PW PV HVL he=> ?_,fun r sg eg D J ep w h k v PW PV HVL mi me X0 X1 HOP=> ?_,fun r sg eg D J ep w h k v PW PV HVL mi me X0 X1 hk8 HOP hfd hmi hme PA=> ?_,fun r sg eg D J ep w h k v u y yb ye D2 PW PV HVL PS HYL mi me X0 X1 hk8 HOP hfd hmi hme PA HU HUL=> ?_,fun r sg eg D J ep w h k v PW PV HVL mi me X0 X1 _hk8 HOP hfd=> ?_,fun r sg eg D J ep w h k v PW PV HVL mi me X0 X1 hk8 HOP hfd hmi=> ?_,fun r sg eg D J ep w h k v PW PV HVL mi me X0 X1 hk8 HOP hfd hmi hme=> ?_⟩;have M:Hid (Ph r sg eg D w w []):=hide (Ph.init h);clear h
 rotate_left
 have M:Hid (Ph r sg eg D w w []):=hide (Ph.init h);clear h
 rotate_left
 have M:Hid (Ph r sg eg D w w []):=hide (Ph.init h);clear h
 rotate_left
 have M:Hid (Ph r sg eg D w w []):=hide (Ph.init h);clear h;subst hmi
 rotate_left
 have M:Hid (Ph r sg eg D w w []):=hide (Ph.init h);clear h;subst hmi
 rotate_left
 have M:Hid (Ph r sg eg D w w []):=hide (Ph.init h);clear h
 rotate_left
 have M:Hid (Ph r sg eg D w w []):=hide (Ph.init h);clear h;subst hmi
 rotate_left
 have M:Hid (Ph r sg eg D w w []):=hide (Ph.init h);clear h;subst hmi
 rotate_left
 all_goals
   go_enter Tryz.func41,Tryz.ntmps41
   go_wp2_with (first |(refine Qp rfl (.tmp 1) rfl (Ar.Qf J) rfl ?_;intro W1 b1 e1 B1 K1;replace M:=hide ((Qa M).new e1 B1 K1);clear e1 B1 K1;refine Stp.go ?_))
   constructor
   go_wp2_with (first |(refine Qv (Vi.vwC Vi.zv) Vi.QE 8 rfl rfl rfl ?_;intro W2 b2 e2 B2 K2;replace M:=hide ((Qa M).new e2 B2 K2);clear e2 B2 K2;refine Stp.go ?_))
   constructor
   go_wp2_with (first |(refine Qg Zv rfl (.tmp 5) rfl b1 0 rfl (Ar.Qf J) rfl ((Qa M).at 0 _ rfl).range ?_;refine Stp.go ?_))
   constructor
   go_wp2_with (first |(go_at_call 96;refine(Qa PW _ (Qa M).rv).mono ?_;rintro e W3 ⟨rfl,K3⟩;replace M:=hide ((Qa M).step K3);clear K3;refine Stp.go ?_))
   constructor
 · go_wp2_with (first |(refine QG (Vi.vwC Vi.zv) Vi.Zi rfl rfl ?_;refine Stp.go ?_))
   constructor
   go_wp2_with (first |(refine QQ Vi.Qn rfl (.tmp 8) (.tmp 21) rfl rfl b2 1 (Vi.vwC Vi.zv) rfl rfl rfl (Vi.Ql _) (Qa M) rfl rfl ?_;intro W4 N4;replace M:Hid (Ph r sg eg D w W4 [(b1,23,Ar.Qf J),(b2,29,Vi.vwC Vi.zv)]):=hide N4;clear N4;refine Stp.go ?_))
   constructor
   go_wp2_with fail
   refine bodyPost_ret (res41 _ b2 (Vi.vwC Vi.zv) false e1 _ rfl rfl rfl rfl ((Qa M).at 1 _ rfl)) rfl ?_;exact⟨rfl,(Qa M).rv,(Qa M).kept⟩
 all_goals
   go_wp2_with (first |(refine Qg Zv rfl (.tmp 5) rfl b1 0 rfl (Ar.Qf J) rfl ((Qa M).at 0 _ rfl).range ?_;refine Stp.go ?_))
   constructor
   go_wp2_with (first |(go_at_call 14;refine(Qa PV _ (Qa M).rv).mono ?_;rintro e W4 ⟨rfl,K4⟩;replace M:=hide ((Qa M).step K4);clear K4;refine Stp.go ?_))
   constructor
 · go_wp2_with (first |(refine QM Vi.Qn (Vi.vwC Vi.zv) rfl Vi.QE 12 rfl rfl rfl (.tmp 27) rfl rfl rfl (Vi.vwC v) (Qa HVL) (Vi.Ql _) (by kernel_rfl) (by kernel_rfl) ?_;intro W5 b5 e5 B5 K5;replace M:=hide ((Qa M).new e5 B5 K5);clear e5 B5 K5;refine Stp.go ?_))
   constructor
   go_wp2_with (first |(refine QG (Vi.vwC Vi.zv) Vi.Zi rfl rfl ?_;refine Stp.go ?_))
   constructor
   go_wp2_with (first |(refine QQ Vi.Qn rfl (.tmp 8) (.tmp 31) rfl rfl b2 1 (Vi.vwC Vi.zv) rfl rfl rfl (Vi.Ql _) (Qa M) rfl rfl ?_;intro W6 N6;replace M:Hid (Ph r sg eg D w W6 [(b1,23,Ar.Qf J),(b2,29,Vi.vwC Vi.zv),(b5,29,Vi.vwC v)]):=hide N6;clear N6;refine Stp.go ?_))
   constructor
   go_wp2_with fail
   refine bodyPost_ret (res41 _ b2 (Vi.vwC Vi.zv) false e2 _ rfl rfl rfl rfl ((Qa M).at 1 _ rfl)) rfl ?_;exact⟨rfl,(Qa M).rv,(Qa M).kept⟩
 · go_wp2_with (first |(refine QM Vi.Qn (Vi.vwC Vi.zv) rfl Vi.QE 12 rfl rfl rfl (.tmp 27) rfl rfl rfl (Vi.vwC v) (Qa HVL) (Vi.Ql _) (by kernel_rfl) (by kernel_rfl) ?_;intro W5 b5 e5 B5 K5;replace M:=hide ((Qa M).new e5 B5 K5);clear e5 B5 K5;have c3:W5.cell? ⟨b5,1,none⟩=some (.bool true):=(by rw [← Qa HOP];exact Qb ((Qa M).at 2 _ rfl) 1 _ rfl);have c4:=Qb ((Qa M).at 2 _ rfl) 2 (.int .i64 v.fd) rfl;have c1:=Qb ((Qa M).at 2 _ rfl) _ _ (Qa X0);have c2:=Qb ((Qa M).at 2 _ rfl) _ _ (Qa X1);refine Stp.go ?_))
   constructor
   go_wp2_with (first |(refine Qg Vi.Qn rfl (.tmp 12) rfl b5 0 rfl (Vi.vwC v) (Qa HVL) ((Qa M).at 2 _ rfl).range ?_;refine Stp.go ?_))
   constructor
   go_wp2_with (first |(refine QQ Vi.Qn rfl (.tmp 8) (.tmp 35) rfl rfl b2 1 (Vi.vwC v) rfl rfl (Qa HVL) (Vi.Ql _) (Qa M) rfl rfl ?_;intro W6 N6;replace M:Hid (Ph r sg eg D w W6 [(b1,23,Ar.Qf J),(b2,29,Vi.vwC v),(b5,29,Vi.vwC v)]):=hide N6;clear N6;refine Stp.go ?_))
   constructor
   go_wp2_with fail
   refine bodyPost_ret (res41 _ b2 (Vi.vwC v) false 0 _ rfl rfl rfl (Qa HVL) ((Qa M).at 1 _ rfl)) rfl ?_;exact⟨rfl,(Qa M).rv,(Qa M).kept⟩
 all_goals
   go_wp2_with (first |(refine QM Vi.Qn (Vi.vwC Vi.zv) rfl Vi.QE 12 rfl rfl rfl (.tmp 27) rfl rfl rfl (Vi.vwC v) (Qa HVL) (Vi.Ql _) (by kernel_rfl) (by kernel_rfl) ?_;intro W5 b5 e5 B5 K5;replace M:=hide ((Qa M).new e5 B5 K5);clear e5 B5 K5;have c3:W5.cell? ⟨b5,1,none⟩=some (.bool false):=(by rw [← Qa HOP];exact Qb ((Qa M).at 2 _ rfl) 1 _ rfl);have c4:=Qb ((Qa M).at 2 _ rfl) 2 (.int .i64 v.fd) rfl;have c1:=Qb ((Qa M).at 2 _ rfl) _ _ (Qa X0);have c2:=Qb ((Qa M).at 2 _ rfl) _ _ (Qa X1);refine Stp.go ?_))
   constructor
 · go_wp2_with (first |(refine Qg Zv rfl (.tmp 5) rfl b1 0 rfl (Ar.Qf J) rfl ((Qa M).at 0 _ rfl).range ?_;refine Stp.go ?_))
   constructor
   go_wp2_with (first |(refine Qg Vi.Qn rfl (.tmp 12) rfl b5 0 rfl (Vi.vwC v) (Qa HVL) ((Qa M).at 2 _ rfl).range ?_;refine Stp.go ?_))
   constructor
   go_wp2_with (first |(go_at_call 52;refine(Qa PA _ (Qa M).rv).mono ?_;rintro e W6 ⟨rfl,K6⟩;replace M:=hide ((Qa M).step K6);clear K6;refine Stp.go ?_))
   constructor
   go_wp2_with (first |(refine QG (Vi.vwC Vi.zv) Vi.Zi rfl rfl ?_;refine Stp.go ?_))
   constructor
   go_wp2_with (first |(refine QQ Vi.Qn rfl (.tmp 8) (.tmp 63) rfl rfl b2 1 (Vi.vwC Vi.zv) rfl rfl rfl (Vi.Ql _) (Qa M) rfl rfl ?_;intro W7 N7;replace M:Hid (Ph r sg eg D w W7 [(b1,23,Ar.Qf J),(b2,29,Vi.vwC Vi.zv),(b5,29,Vi.vwC v)]):=hide N7;clear N7;refine Stp.go ?_))
   constructor
   go_wp2_with fail
   refine bodyPost_ret (res41 _ b2 (Vi.vwC Vi.zv) false 11 _ rfl rfl rfl rfl ((Qa M).at 1 _ rfl)) rfl ?_;exact⟨rfl,(Qa M).rv,(Qa M).kept⟩
 · go_wp2_with (first |(refine Qg Zv rfl (.tmp 5) rfl b1 0 rfl (Ar.Qf J) rfl ((Qa M).at 0 _ rfl).range ?_;refine Stp.go ?_))
   constructor
   go_wp2_with (first |(refine Qg Vi.Qn rfl (.tmp 12) rfl b5 0 rfl (Vi.vwC v) (Qa HVL) ((Qa M).at 2 _ rfl).range ?_;refine Stp.go ?_))
   constructor
   go_wp2_with (first |(go_at_call 52;refine(Qa PA _ (Qa M).rv).mono ?_;rintro e W6 ⟨rfl,K6⟩;replace M:=hide ((Qa M).step K6);clear K6;refine Stp.go ?_))
   constructor
   go_wp2_with (first |(refine Qg Vi.Qn rfl (.tmp 12) rfl b5 0 rfl (Vi.vwC v) (Qa HVL) ((Qa M).at 2 _ rfl).range ?_;refine Stp.go ?_))
   constructor
   go_wp2_with (first |(refine QM Vi.Qn (Vi.vwC Vi.zv) rfl Vi.QE 13 rfl rfl rfl (.tmp 64) rfl rfl rfl (Vi.vwC v) (Qa HVL) (Vi.Ql _) (by kernel_rfl) (by kernel_rfl) ?_;intro W7 b7 e7 B7 K7;replace M:=hide ((Qa M).new e7 B7 K7);clear e7 B7 K7;clear c1 c2 c3 c4;refine Stp.go ?_))
   constructor
   go_wp2_with (first |(refine wpStoreP1 Le.size4 rfl (.tmp 65) (.const (.bool true)) rfl rfl b7 1 3 (.bool true) ⟨rfl,rfl⟩ rfl rfl (Qa M) rfl (by simp [Vi.vwC]) ?_;intro W8 N8;replace M:Hid (Ph r sg eg D w W8 [(b1,23,Ar.Qf J),(b2,29,Vi.vwC Vi.zv),(b5,29,Vi.vwC v),(b7,29,Vi.vwC u)]):=(by have h9:Ph r sg eg D w W8 [(b1,23,Ar.Qf J),(b2,29,Vi.vwC Vi.zv),(b5,29,Vi.vwC v),(b7,29,Vi.vwC ⟨v.nu,true,v.fd,v.ms⟩)]:=N8;rw [show (⟨v.nu,true,v.fd,v.ms⟩:Vi.Vw)=u from Qa HU] at h9;exact h9);clear N8;refine Stp.go ?_))
   constructor
   go_wp2_with (first |(refine Qg Zv rfl (.tmp 5) rfl b1 0 rfl (Ar.Qf J) rfl ((Qa M).at 0 _ rfl).range ?_;refine Stp.go ?_))
   constructor
   go_wp2_with (first |(refine Qg Vi.Qn rfl (.tmp 12) rfl b5 0 rfl (Vi.vwC v) (Qa HVL) ((Qa M).at 2 _ rfl).range ?_;refine Stp.go ?_))
   constructor
   go_wp2_with (first |(refine Qg Vi.Qn rfl (.tmp 13) rfl b7 0 rfl (Vi.vwC u) (Qa HUL) ((Qa M).at 3 _ rfl).range ?_;refine Stp.go ?_))
   constructor
   go_wp2_with (first |(go_at_call 97;refine(Qa PS _ (Qa M).rv).mono ?_;rintro e W9 ⟨rfl,R9,K9⟩;replace M:Hid (Ph r sg eg D2 w W9 [(b1,23,Ar.Qf J),(b2,29,Vi.vwC Vi.zv),(b5,29,Vi.vwC v),(b7,29,Vi.vwC u)]):=hide ((Qa M).dev K9 (by simp) R9);clear K9 R9;refine Stp.go ?_))
   constructor
   go_wp2_with (first |(refine QQ Vi.Qn rfl (.tmp 8) (.tmp 73) rfl rfl b2 1 (Vi.vwC y) rfl rfl (Qa HYL) (Vi.Ql _) (Qa M) rfl rfl ?_;intro W10 N10;replace M:Hid (Ph r sg eg D2 w W10 [(b1,23,Ar.Qf J),(b2,29,Vi.vwC y),(b5,29,Vi.vwC v),(b7,29,Vi.vwC u)]):=hide N10;clear N10;refine Stp.go ?_))
   constructor
   go_wp2_with fail
   refine bodyPost_ret (res41 _ b2 (Vi.vwC y) yb ye _ rfl rfl rfl (Qa HYL) ((Qa M).at 1 _ rfl)) rfl ?_;exact⟨rfl,(Qa M).rv,(Qa M).kept⟩
 all_goals
   go_wp2_with (first |(refine QG (Vi.vwC Vi.zv) Vi.Zi rfl rfl ?_;refine Stp.go ?_))
   constructor
   go_wp2_with (first |(refine QQ Vi.Qn rfl (.tmp 8) (.tmp 57) rfl rfl b2 1 (Vi.vwC Vi.zv) rfl rfl rfl (Vi.Ql _) (Qa M) rfl rfl ?_;intro W6 N6;replace M:Hid (Ph r sg eg D w W6 [(b1,23,Ar.Qf J),(b2,29,Vi.vwC Vi.zv),(b5,29,Vi.vwC v)]):=hide N6;clear N6;refine Stp.go ?_))
   constructor
   go_wp2_with fail
   refine bodyPost_ret (res41 _ b2 (Vi.vwC Vi.zv) false 6 _ rfl rfl rfl rfl ((Qa M).at 1 _ rfl)) rfl ?_;exact⟨rfl,(Qa M).rv,(Qa M).kept⟩
def ropen (D:Dv.Dev) (J:Ar.Job) (n ep:Int):(Vi.Vw×Bool)×Int×Dv.Dev:=
 if rwho D J n ep≠0 then ((Vi.zv,false),rwho D J n ep,D) else if (oV D).2≠0 then ((Vi.zv,false),(oV D).2,D)
 else if (oV D).1.op=true then (((oV D).1,false),0,D)
 else if ¬((oV D).1.fd=n∧((oV D).1.mem n).1=true∧((oV D).1.mem n).2=ep) then ((Vi.zv,false),6,D)
 else if rall D J (oV D).1=false then ((Vi.zv,false),11,D)
 else mswap D n ep (oV D).1 ⟨(oV D).1.nu,true,(oV D).1.fd,(oV D).1.ms⟩
theorem open_may {v:Vi.Vw} (hm:v.may=true):(⟨v.nu,true,v.fd,v.ms⟩:Vi.Vw).may=true:=by
 unfold Vi.Vw.may at hm⊢;simp only;split
 · rename_i h0;rw [if_pos h0] at hm;have:=of_decide_eq_true hm;rw [this];rfl
 · rename_i h0;rw [if_neg h0] at hm;exact hm
theorem ropen41 (r sg eg:Nat) (D:Dv.Dev) (J:Ar.Job) (n ep:Int) (w:World) (h:Dv.Rv w r sg eg D) (hJ:J.n≤8):Calls Tryz.prog 41 #[P0 r,Qd (Ar.Qf J),.int .i64 n,.int .i64 ep] w fun x w'=>x= .returned (.tuple #[Qd (Vi.vwC (ropen D J n ep).1.1),.bool (ropen D J n ep).1.2,.int .i64 (ropen D J n ep).2.1])∧Dv.Rv w' r sg eg (ropen D J n ep).2.2∧Kept [r,sg,eg] w w':=by
 have PW:=fun W (h0:Dv.Rv W r sg eg D)=>who96 r sg eg D J n ep W h0;have PV:=fun W (h0:Dv.Rv W r sg eg D)=>rview14 r sg eg D J W h0;have hok:=oV_okD h.ok;unfold ropen;by_cases h1:rwho D J n ep=0
 · rw [if_neg (fun q=>q h1)];obtain⟨g0,g1,g2,g3⟩:=rwho_0 h1;rw [h1] at PW;by_cases h2:(oV D).2=0
   · rw [if_neg (fun q=>q h2)];have hmay:=getV_may _ h2;rw [h2] at PV;replace hmay:(oV D).1.may=true:=hmay;obtain⟨v,hv⟩:∃v,v=(oV D).1:=⟨_,rfl⟩;rw [← hv] at PV hok hmay⊢;obtain⟨k,rfl⟩:∃k:Nat,n=(k:Int):=⟨n.toNat,by omega⟩;have hk8:k<8:=by omega
     obtain⟨m,hm⟩:∃m,v.ms[k]?=some m:=⟨_,List.getElem?_eq_getElem (by rw [hok.len];exact hk8)⟩;have hmm:v.mem (k:Int)=m:=by unfold Vi.Vw.mem;rw [Int.toNat_natCast,List.getD_eq_getElem?_getD,hm];rfl
     obtain⟨x0,x1⟩:=Vi.vwC_at hm;rw [Nat.mul_comm] at x0 x1;have HVL:=Vi.Qk hok.len;rw [hmm];by_cases h3:v.op=true
     · rw [if_pos h3];exact ropen_1_F.2.2.1 r sg eg D J ep w h k v PW PV HVL m.1 m.2 x0 x1 h3
     · rw [if_neg h3];have h3f:v.op=false:=by simpa using h3
       by_cases h4:v.fd=(k:Int)∧m.1=true∧m.2=ep
       · rw [if_neg (fun q=>q h4)];have PA:=fun W (h0:Dv.Rv W r sg eg D)=>rall52 r sg eg D J v W h0 hJ hok.len;by_cases h5:rall D J v=false
         · rw [if_pos h5];rw [h5] at PA;exact ropen_1_F.2.2.2.1 r sg eg D J ep w h k v PW PV HVL m.1 m.2 x0 x1 (by omega) h3f h4.1 h4.2.1 h4.2.2 PA
         · rw [if_neg h5];rw [show rall D J v=true by simpa using h5] at PA;have huo:(⟨v.nu,true,v.fd,v.ms⟩:Vi.Vw).Ok:=⟨hok.nu,hok.fd,hok.len,hok.ep⟩;have PS:=fun W (h0:Dv.Rv W r sg eg D)=>rswap97 r sg eg D J (k:Int) ep v _ W h0 hok huo hmay (open_may hmay);exact ropen_1_F.2.2.2.2.1 r sg eg D J ep w h k v _ _ _ _ _ PW PV HVL PS (Vi.Qk (mswap_len D (k:Int) ep v _ huo.len)) m.1 m.2 x0 x1 (by omega) h3f h4.1 h4.2.1 h4.2.2 PA rfl (Vi.Qk huo.len)
       · rw [if_pos h4];by_cases h5:v.fd=(k:Int)
         · cases h6:m.1 with
           | false=>exact ropen_1_F.2.2.2.2.2.2.1 r sg eg D J ep w h k v PW PV HVL m.1 m.2 x0 x1 (by omega) h3f h5 h6
           | true=>exact ropen_1_F.2.2.2.2.2.2.2 r sg eg D J ep w h k v PW PV HVL m.1 m.2 x0 x1 (by omega) h3f h5 h6 (fun q=>h4 ⟨h5,h6,q⟩)
         · exact ropen_1_F.2.2.2.2.2.1 r sg eg D J ep w h k v PW PV HVL m.1 m.2 x0 x1 (by omega) h3f h5
   · rw [if_pos h2];exact ropen_1_F.2.1 r sg eg D J ep w h n _ _ PW PV (Vi.Qk hok.len) h2
 · rw [if_pos h1];exact ropen_1_F.1 r sg eg D J ep w h n _ PW h1
end Go.Proofs.YtcfflbafclmheaaGreatDoor
