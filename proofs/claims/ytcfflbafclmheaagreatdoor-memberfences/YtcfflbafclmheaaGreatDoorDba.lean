/-
  Texts of the walks of member, shortened.
-/
import Derived.Test.YtcfflbafclmheaaGreatDoorDaz
set_option maxRecDepth 100000
set_option maxHeartbeats 100000000
set_option linter.unusedSimpArgs false
namespace Go.Proofs.YtcfflbafclmheaaGreatDoor
open Go.RowKit
open Le (Mm Qh Qo)
theorem cg31 (vs:Array Value) (w:World):(callFunc 31 vs).run Tryz.prog w= .ok (.enter 31 vs) w:=by kernel_rfl
theorem cg40 (vs:Array Value) (w:World):(callFunc 40 vs).run Tryz.prog w= .ok (.enter 40 vs) w:=by kernel_rfl
section
variable {o:Oper} {a:Act} {w:World} {K:Act→World→Prop} {Q:Exit→Act→World→Prop}
theorem o_fldS1 (x:Operand) (ho:o.op= .fieldAddr 38 x 1) (b:Nat) (hx:a.eval x=P0 b) (h:K (a.put o.dst (.pointer (some ⟨b,1,none⟩))) w):o.wp Tryz.prog a w K Q:=by
 unfold Oper.wp execOp;simp only [ho,hx];simp [go_sem];exact h
theorem o_eql33 (x y:Operand) (ho:o.op= .binOp .eql 3 x y 3) (m n:Int) (r:Bool) (hr:decide (m=n)=r) (hx:a.eval x= .int .i64 m) (hy:a.eval y= .int .i64 n) (h:K (a.put o.dst (.bool r)) w):o.wp Tryz.prog a w K Q:=by
 subst hr;unfold Oper.wp execOp;simp only [ho,hx,hy];simp [go_sem];have e:(m == n)=decide (m=n):=by rw [Bool.eq_iff_iff];simp
 rw [e];exact h
end
@[reducible] def SB (V:World) (b g r sg eg:Nat) (D E:Dv.Dev) (d:Nat→Bool) (_:Nat→Value) (W:World):Prop:=
 Kept [b,g,r,sg,eg] V W∧P2 b g r sg eg (bif d 5 then E else D) (bif d 11 then E else D) W
theorem SB.loc {V:World} {b g r sg eg:Nat} {D E:Dv.Dev} :∀d d' vs vs' W,(∀i∈ [5,11],d i=d' i∧vs i=vs' i)→SB V b g r sg eg D E d vs W→SB V b g r sg eg D E d' vs' W:=by
 intro d d' vs vs' W H h;have e0:=H 5 (by simp);have e1:=H 11 (by simp);unfold SB at h⊢;rw [← e0.1,← e1.1];exact h
theorem P2.devA {b g r sg eg:Nat} {D E D':Dv.Dev} {W W':World} (h:P2 b g r sg eg D E W) (k:Kept [b,g] W W') (hd:Dv.Dv W' b g D'):P2 b g r sg eg D' E W':=((Pz.init h).devA k hd).p2
theorem P2.devB {b g r sg eg:Nat} {D E D':Dv.Dev} {W W':World} (h:P2 b g r sg eg D E W) (k:Kept [r,sg,eg] W W') (hd:Dv.Rv W' r sg eg D'):P2 b g r sg eg D D' W':=((Pz.init h).devB k (fun _ q=>q) hd).p2
set_option linter.unusedVariables false in
theorem does_1A_F:(∀(b g r sg eg:Nat) (D:Dv.Dev) (J:Ar.Job) (n e who be re:Int) (w:World) (h:P2 b g r sg eg D D w) (SC:List Value) (Y0:Hid (SC[0]?=some (.int .i64 1))) (Y1:Hid (SC[1]?=some (.int .i64 n))) (Y2:Hid (SC[2]?=some (.int .i64 e))) (_Y3:Hid (SC[3]?=some (.int .i64 who))) (_Y4:Hid (SC[4]?=some (.int .i64 be))) (_Y5:Hid (SC[5]?=some (.int .i64 re))) (D2:Dv.Dev) (u1 u2:Int) (hep:¬e= -1) (PU:Hid (∀W,Dv.Dv W b g D→Calls Tryz.prog 22 #[P0 b,.int .i64 n] W fun x w'=>x= .returned (.tuple #[.int .i64 u1,.int .i64 u2])∧Dv.Dv w' b g D2∧Kept [b,g] W w')) (PR:Hid (∀W,Dv.Rv W r sg eg D→Calls Tryz.prog 23 #[P0 r,.int .i64 n] W fun x w'=>x= .returned (.tuple #[.int .i64 u1,.int .i64 u2])∧Dv.Rv w' r sg eg D2∧Kept [r,eg] W w')),Calls Tryz.prog 12 #[P0 b,P0 r,Qd (Ar.Qf J),Qd SC] w fun x w'=>x= .returned (.bool true)∧P2 b g r sg eg D2 D2 w'∧Kept [b,g,r,sg,eg] w w')∧(∀(b g r sg eg:Nat) (D:Dv.Dev) (J:Ar.Job) (n e who be re:Int) (w:World) (h:P2 b g r sg eg D D w) (SC:List Value) (Y0:Hid (SC[0]?=some (.int .i64 1))) (Y1:Hid (SC[1]?=some (.int .i64 n))) (Y2:Hid (SC[2]?=some (.int .i64 (-1)))) (_Y3:Hid (SC[3]?=some (.int .i64 who))) (_Y4:Hid (SC[4]?=some (.int .i64 be))) (_Y5:Hid (SC[5]?=some (.int .i64 re))) (D2:Dv.Dev) (u1 u2:Int) (e2:Int) (PE:Hid (∀W,Dv.Rv W r sg eg D→Calls Tryz.prog 37 #[P0 r,.int .i64 n] W fun x w'=>x= .returned (.tuple #[.int .i64 e,.int .i64 e2])∧w'=W)) (PU:Hid (∀W,Dv.Dv W b g D→Calls Tryz.prog 22 #[P0 b,.int .i64 n] W fun x w'=>x= .returned (.tuple #[.int .i64 u1,.int .i64 u2])∧Dv.Dv w' b g D2∧Kept [b,g] W w')) (PR:Hid (∀W,Dv.Rv W r sg eg D→Calls Tryz.prog 23 #[P0 r,.int .i64 n] W fun x w'=>x= .returned (.tuple #[.int .i64 u1,.int .i64 u2])∧Dv.Rv w' r sg eg D2∧Kept [r,eg] W w')),Calls Tryz.prog 12 #[P0 b,P0 r,Qd (Ar.Qf J),Qd SC] w fun x w'=>x= .returned (.bool true)∧P2 b g r sg eg D2 D2 w'∧Kept [b,g,r,sg,eg] w w'):=by
 refine⟨fun b g r sg eg D J n e who be re w h SC Y0 Y1 Y2 _Y3 _Y4 _Y5 D2 u1 u2 hep PU PR=> ?_,fun b g r sg eg D J n e who be re w h SC Y0 Y1 Y2 _Y3 _Y4 _Y5 D2 u1 u2 e2 PE PU PR=> ?_⟩;have M:Hid (Pz b g r sg eg D D w w []):=hide (Pz.init h);clear h
 rotate_left
 have M:Hid (Pz b g r sg eg D D w w []):=hide (Pz.init h);clear h
 rotate_left
 all_goals
  go_enter Tryz.func12,Tryz.ntmps12
  go_wp2_with (first |(refine Qp rfl (.tmp 2) rfl (Ar.Qf J) rfl ?_;intro W1 b1 e1 B1 K1;replace M:=hide ((Qa M).new e1 B1 K1);clear e1 B1 K1;refine Stp.go ?_))
  constructor
  go_wp2_with (first |(refine Qp rfl (.tmp 3) rfl (SC) rfl ?_;intro W2 b2 e2 B2 K2;replace M:=hide ((Qa M).new e2 B2 K2);clear e2 B2 K2;have k0:=Qb ((Qa M).at 1 _ rfl) 0 _ (Qa Y0);have k1:=Qb ((Qa M).at 1 _ rfl) 1 _ (Qa Y1);have k2:=Qb ((Qa M).at 1 _ rfl) 2 _ (Qa Y2);refine Stp.go ?_))
  constructor
 rotate_left
 focus
  go_wp2_with (first |(go_at_call 37;refine(Qa PE _ (Qa M).rv).mono ?_;rintro e W3 ⟨rfl,q3⟩;replace q3:=q3.symm;subst q3;refine Stp.go ?_))
  constructor
 rotate_left
 all_goals
  go_wp2_with (first |(go_at_call 22;refine(Qa PU _ (Qa M).dv).mono ?_;rintro e W4 ⟨rfl,R4,K4⟩;replace M:Hid (Pz b g r sg eg D2 D w W4 [(b1,23,Ar.Qf J),(b2,38,SC)]):=hide ((Qa M).devA K4 R4);clear K4 R4;clear k1;have k1:=Qb ((Qa M).at 1 _ rfl) 1 _ (Qa Y1);refine Stp.go ?_))
  constructor
  go_wp2_with (first |(go_at_call 23;refine(Qa PR _ (Qa M).rv).mono ?_;rintro e W5 ⟨rfl,R5,K5⟩;replace M:Hid (Pz b g r sg eg D2 D2 w W5 [(b1,23,Ar.Qf J),(b2,38,SC)]):=hide ((Qa M).devB K5 (by simp) R5);clear K5 R5;refine Stp.go ?_))
  constructor
  go_wp2_with fail
  go_ret
  exact⟨rfl,(Qa M).p2,(Qa M).kept⟩
set_option linter.unusedVariables false in
theorem does_2A_F:(∀(b g r sg eg:Nat) (D:Dv.Dev) (J:Ar.Job) (n e who be re:Int) (w:World) (h:P2 b g r sg eg D D w) (SC:List Value) (Y0:Hid (SC[0]?=some (.int .i64 2))) (Y1:Hid (SC[1]?=some (.int .i64 n))) (Y2:Hid (SC[2]?=some (.int .i64 e))) (_Y3:Hid (SC[3]?=some (.int .i64 who))) (_Y4:Hid (SC[4]?=some (.int .i64 be))) (_Y5:Hid (SC[5]?=some (.int .i64 re))) (D2:Dv.Dev) (y:Vi.Vw) (yb:Bool) (ye:Int) (hep:¬e= -1) (HY8:Hid (y.ms.length=8)) (HYL:Hid ((Vi.vwC y).length=19)) (PU:Hid (∀W,P2 b g r sg eg D D W→Calls Tryz.prog 32 #[P0 b,Qd (Ar.Qf J),.int .i64 n,.int .i64 e] W fun x w'=>x= .returned (.tuple #[Qd (Vi.vwC y),.bool yb,.int .i64 ye])∧Kept [b,g] W w'∧Dv.Dv w' b g D2)) (PR:Hid (∀W,Dv.Rv W r sg eg D→Calls Tryz.prog 38 #[P0 r,Qd (Ar.Qf J),.int .i64 n,.int .i64 e] W fun x w'=>x= .returned (.tuple #[Qd (Vi.vwC y),.bool yb,.int .i64 ye])∧Dv.Rv w' r sg eg D2∧Kept [r,sg,eg] W w')),Calls Tryz.prog 12 #[P0 b,P0 r,Qd (Ar.Qf J),Qd SC] w fun x w'=>x= .returned (.bool true)∧P2 b g r sg eg D2 D2 w'∧Kept [b,g,r,sg,eg] w w')∧(∀(b g r sg eg:Nat) (D:Dv.Dev) (J:Ar.Job) (n e who be re:Int) (w:World) (h:P2 b g r sg eg D D w) (SC:List Value) (Y0:Hid (SC[0]?=some (.int .i64 2))) (Y1:Hid (SC[1]?=some (.int .i64 n))) (Y2:Hid (SC[2]?=some (.int .i64 (-1)))) (_Y3:Hid (SC[3]?=some (.int .i64 who))) (_Y4:Hid (SC[4]?=some (.int .i64 be))) (_Y5:Hid (SC[5]?=some (.int .i64 re))) (D2:Dv.Dev) (y:Vi.Vw) (yb:Bool) (ye:Int) (e2:Int) (PE:Hid (∀W,Dv.Rv W r sg eg D→Calls Tryz.prog 37 #[P0 r,.int .i64 n] W fun x w'=>x= .returned (.tuple #[.int .i64 e,.int .i64 e2])∧w'=W)) (HY8:Hid (y.ms.length=8)) (HYL:Hid ((Vi.vwC y).length=19)) (PU:Hid (∀W,P2 b g r sg eg D D W→Calls Tryz.prog 32 #[P0 b,Qd (Ar.Qf J),.int .i64 n,.int .i64 e] W fun x w'=>x= .returned (.tuple #[Qd (Vi.vwC y),.bool yb,.int .i64 ye])∧Kept [b,g] W w'∧Dv.Dv w' b g D2)) (PR:Hid (∀W,Dv.Rv W r sg eg D→Calls Tryz.prog 38 #[P0 r,Qd (Ar.Qf J),.int .i64 n,.int .i64 e] W fun x w'=>x= .returned (.tuple #[Qd (Vi.vwC y),.bool yb,.int .i64 ye])∧Dv.Rv w' r sg eg D2∧Kept [r,sg,eg] W w')),Calls Tryz.prog 12 #[P0 b,P0 r,Qd (Ar.Qf J),Qd SC] w fun x w'=>x= .returned (.bool true)∧P2 b g r sg eg D2 D2 w'∧Kept [b,g,r,sg,eg] w w'):=by
 refine⟨fun b g r sg eg D J n e who be re w h SC Y0 Y1 Y2 _Y3 _Y4 _Y5 D2 y yb ye hep HY8 HYL PU PR=> ?_,fun b g r sg eg D J n e who be re w h SC Y0 Y1 Y2 _Y3 _Y4 _Y5 D2 y yb ye e2 PE HY8 HYL PU PR=> ?_⟩;have M:Hid (Pz b g r sg eg D D w w []):=hide (Pz.init h);clear h
 rotate_left
 have M:Hid (Pz b g r sg eg D D w w []):=hide (Pz.init h);clear h
 rotate_left
 all_goals
  go_enter Tryz.func12,Tryz.ntmps12
  go_wp2_with (first |(refine Qp rfl (.tmp 2) rfl (Ar.Qf J) rfl ?_;intro W1 b1 e1 B1 K1;replace M:=hide ((Qa M).new e1 B1 K1);clear e1 B1 K1;refine Stp.go ?_))
  constructor
  go_wp2_with (first |(refine Qp rfl (.tmp 3) rfl (SC) rfl ?_;intro W2 b2 e2 B2 K2;replace M:=hide ((Qa M).new e2 B2 K2);clear e2 B2 K2;have k0:=Qb ((Qa M).at 1 _ rfl) 0 _ (Qa Y0);have k1:=Qb ((Qa M).at 1 _ rfl) 1 _ (Qa Y1);have k2:=Qb ((Qa M).at 1 _ rfl) 2 _ (Qa Y2);refine Stp.go ?_))
  constructor
 rotate_left
 focus
  go_wp2_with (first |(go_at_call 37;refine(Qa PE _ (Qa M).rv).mono ?_;rintro e W3 ⟨rfl,q3⟩;replace q3:=q3.symm;subst q3;refine Stp.go ?_))
  constructor
 rotate_left
 all_goals
  go_wp2_with (first |(refine Qg Zv rfl (.tmp 6) rfl b1 0 rfl (Ar.Qf J) rfl ((Qa M).at 0 _ rfl).range ?_;refine Stp.go ?_))
  constructor
  go_wp2_with (first |(go_at_call 32;refine(Qa PU _ (Qa M).p2).mono ?_;rintro e W4 ⟨rfl,K4,R4⟩;replace M:Hid (Pz b g r sg eg D2 D w W4 [(b1,23,Ar.Qf J),(b2,38,SC)]):=hide ((Qa M).devA K4 R4);clear K4 R4;clear k1;refine Stp.go ?_))
  constructor
  go_wp2_with (first |(refine QM Vi.Qn (Vi.vwC Vi.zv) rfl Vi.QE 14 rfl rfl rfl (.tmp 86) rfl rfl rfl (Vi.vwC y) (Qa HYL) (Vi.Ql _) (by kernel_rfl) (by kernel_rfl) ?_;intro W5 b5 e5 B5 K5;replace M:=hide ((Qa M).new e5 B5 K5);clear e5 B5 K5;have k1:=Qb ((Qa M).at 1 _ rfl) 1 _ (Qa Y1);refine Stp.go ?_))
  constructor
  go_wp2_with (first |(refine Qg Zv rfl (.tmp 6) rfl b1 0 rfl (Ar.Qf J) rfl ((Qa M).at 0 _ rfl).range ?_;refine Stp.go ?_))
  constructor
  go_wp2_with (first |(go_at_call 38;refine(Qa PR _ (Qa M).rv).mono ?_;rintro e W6 ⟨rfl,R6,K6⟩;replace M:Hid (Pz b g r sg eg D2 D2 w W6 [(b1,23,Ar.Qf J),(b2,38,SC),(b5,29,Vi.vwC y)]):=hide ((Qa M).devB K6 (by simp) R6);clear K6 R6;refine Stp.go ?_))
  constructor
  go_wp2_with (first |(refine QM Vi.Qn (Vi.vwC Vi.zv) rfl Vi.QE 17 rfl rfl rfl (.tmp 96) rfl rfl rfl (Vi.vwC y) (Qa HYL) (Vi.Ql _) (by kernel_rfl) (by kernel_rfl) ?_;intro W7 b7 e7 B7 K7;replace M:=hide ((Qa M).new e7 B7 K7);clear e7 B7 K7;refine Stp.go ?_))
  constructor
  go_wp2_with (first |(refine Qg Vi.Qn rfl (.tmp 14) rfl b5 0 rfl (Vi.vwC y) (Qa HYL) ((Qa M).at 2 _ rfl).range ?_;refine Stp.go ?_))
  constructor
  go_wp2_with (first |(refine Qg Vi.Qn rfl (.tmp 17) rfl b7 0 rfl (Vi.vwC y) (Qa HYL) ((Qa M).at 3 _ rfl).range ?_;refine Stp.go ?_))
  constructor
  go_wp2_with (first |(refine wpEqlA 29 29 Vi.guard26 (.tmp 99) (.tmp 100) rfl rfl (Vi.vwC y) (Vi.vwC y) rfl rfl true ((Vi.equal26 _ y y (Qa HY8) (Qa HY8)).trans (by simp)) ?_;refine Stp.go ?_))
  constructor
  go_wp2_with fail
  go_ret
  exact⟨rfl,(Qa M).p2,(Qa M).kept⟩
set_option linter.unusedVariables false in
theorem does_3A_F:(∀(b g r sg eg:Nat) (D:Dv.Dev) (J:Ar.Job) (n e who be re:Int) (w:World) (h:P2 b g r sg eg D D w) (SC:List Value) (Y0:Hid (SC[0]?=some (.int .i64 3))) (Y1:Hid (SC[1]?=some (.int .i64 n))) (Y2:Hid (SC[2]?=some (.int .i64 e))) (Y3:Hid (SC[3]?=some (.int .i64 who))) (_Y4:Hid (SC[4]?=some (.int .i64 be))) (_Y5:Hid (SC[5]?=some (.int .i64 re))) (D2:Dv.Dev) (y:Vi.Vw) (yb:Bool) (ye:Int) (hep:¬e= -1) (HY8:Hid (y.ms.length=8)) (HYL:Hid ((Vi.vwC y).length=19)) (PU:Hid (∀W,P2 b g r sg eg D D W→Calls Tryz.prog 33 #[P0 b,Qd (Ar.Qf J),.int .i64 n,.int .i64 e,.int .i64 who] W fun x w'=>x= .returned (.tuple #[Qd (Vi.vwC y),.bool yb,.int .i64 ye])∧Kept [b,g] W w'∧Dv.Dv w' b g D2)) (PR:Hid (∀W,Dv.Rv W r sg eg D→Calls Tryz.prog 39 #[P0 r,Qd (Ar.Qf J),.int .i64 n,.int .i64 e,.int .i64 who] W fun x w'=>x= .returned (.tuple #[Qd (Vi.vwC y),.bool yb,.int .i64 ye])∧Dv.Rv w' r sg eg D2∧Kept [r,sg,eg] W w')),Calls Tryz.prog 12 #[P0 b,P0 r,Qd (Ar.Qf J),Qd SC] w fun x w'=>x= .returned (.bool true)∧P2 b g r sg eg D2 D2 w'∧Kept [b,g,r,sg,eg] w w')∧(∀(b g r sg eg:Nat) (D:Dv.Dev) (J:Ar.Job) (n e who be re:Int) (w:World) (h:P2 b g r sg eg D D w) (SC:List Value) (Y0:Hid (SC[0]?=some (.int .i64 3))) (Y1:Hid (SC[1]?=some (.int .i64 n))) (Y2:Hid (SC[2]?=some (.int .i64 (-1)))) (Y3:Hid (SC[3]?=some (.int .i64 who))) (_Y4:Hid (SC[4]?=some (.int .i64 be))) (_Y5:Hid (SC[5]?=some (.int .i64 re))) (D2:Dv.Dev) (y:Vi.Vw) (yb:Bool) (ye:Int) (e2:Int) (PE:Hid (∀W,Dv.Rv W r sg eg D→Calls Tryz.prog 37 #[P0 r,.int .i64 n] W fun x w'=>x= .returned (.tuple #[.int .i64 e,.int .i64 e2])∧w'=W)) (HY8:Hid (y.ms.length=8)) (HYL:Hid ((Vi.vwC y).length=19)) (PU:Hid (∀W,P2 b g r sg eg D D W→Calls Tryz.prog 33 #[P0 b,Qd (Ar.Qf J),.int .i64 n,.int .i64 e,.int .i64 who] W fun x w'=>x= .returned (.tuple #[Qd (Vi.vwC y),.bool yb,.int .i64 ye])∧Kept [b,g] W w'∧Dv.Dv w' b g D2)) (PR:Hid (∀W,Dv.Rv W r sg eg D→Calls Tryz.prog 39 #[P0 r,Qd (Ar.Qf J),.int .i64 n,.int .i64 e,.int .i64 who] W fun x w'=>x= .returned (.tuple #[Qd (Vi.vwC y),.bool yb,.int .i64 ye])∧Dv.Rv w' r sg eg D2∧Kept [r,sg,eg] W w')),Calls Tryz.prog 12 #[P0 b,P0 r,Qd (Ar.Qf J),Qd SC] w fun x w'=>x= .returned (.bool true)∧P2 b g r sg eg D2 D2 w'∧Kept [b,g,r,sg,eg] w w'):=by
 refine⟨fun b g r sg eg D J n e who be re w h SC Y0 Y1 Y2 Y3 _Y4 _Y5 D2 y yb ye hep HY8 HYL PU PR=> ?_,fun b g r sg eg D J n e who be re w h SC Y0 Y1 Y2 Y3 _Y4 _Y5 D2 y yb ye e2 PE HY8 HYL PU PR=> ?_⟩;have M:Hid (Pz b g r sg eg D D w w []):=hide (Pz.init h);clear h
 rotate_left
 have M:Hid (Pz b g r sg eg D D w w []):=hide (Pz.init h);clear h
 rotate_left
 all_goals
  go_enter Tryz.func12,Tryz.ntmps12
  go_wp2_with (first |(refine Qp rfl (.tmp 2) rfl (Ar.Qf J) rfl ?_;intro W1 b1 e1 B1 K1;replace M:=hide ((Qa M).new e1 B1 K1);clear e1 B1 K1;refine Stp.go ?_))
  constructor
  go_wp2_with (first |(refine Qp rfl (.tmp 3) rfl (SC) rfl ?_;intro W2 b2 e2 B2 K2;replace M:=hide ((Qa M).new e2 B2 K2);clear e2 B2 K2;have k0:=Qb ((Qa M).at 1 _ rfl) 0 _ (Qa Y0);have k1:=Qb ((Qa M).at 1 _ rfl) 1 _ (Qa Y1);have k2:=Qb ((Qa M).at 1 _ rfl) 2 _ (Qa Y2);have k3:=Qb ((Qa M).at 1 _ rfl) 3 _ (Qa Y3);refine Stp.go ?_))
  constructor
 rotate_left
 focus
  go_wp2_with (first |(go_at_call 37;refine(Qa PE _ (Qa M).rv).mono ?_;rintro e W3 ⟨rfl,q3⟩;replace q3:=q3.symm;subst q3;refine Stp.go ?_))
  constructor
 rotate_left
 all_goals
  go_wp2_with (first |(refine Qg Zv rfl (.tmp 6) rfl b1 0 rfl (Ar.Qf J) rfl ((Qa M).at 0 _ rfl).range ?_;refine Stp.go ?_))
  constructor
  go_wp2_with (first |(go_at_call 33;refine(Qa PU _ (Qa M).p2).mono ?_;rintro e W4 ⟨rfl,K4,R4⟩;replace M:Hid (Pz b g r sg eg D2 D w W4 [(b1,23,Ar.Qf J),(b2,38,SC)]):=hide ((Qa M).devA K4 R4);clear K4 R4;clear k1 k3;refine Stp.go ?_))
  constructor
  go_wp2_with (first |(refine QM Vi.Qn (Vi.vwC Vi.zv) rfl Vi.QE 20 rfl rfl rfl (.tmp 123) rfl rfl rfl (Vi.vwC y) (Qa HYL) (Vi.Ql _) (by kernel_rfl) (by kernel_rfl) ?_;intro W5 b5 e5 B5 K5;replace M:=hide ((Qa M).new e5 B5 K5);clear e5 B5 K5;have k1:=Qb ((Qa M).at 1 _ rfl) 1 _ (Qa Y1);have k3:=Qb ((Qa M).at 1 _ rfl) 3 _ (Qa Y3);refine Stp.go ?_))
  constructor
  go_wp2_with (first |(refine Qg Zv rfl (.tmp 6) rfl b1 0 rfl (Ar.Qf J) rfl ((Qa M).at 0 _ rfl).range ?_;refine Stp.go ?_))
  constructor
  go_wp2_with (first |(go_at_call 39;refine(Qa PR _ (Qa M).rv).mono ?_;rintro e W6 ⟨rfl,R6,K6⟩;replace M:Hid (Pz b g r sg eg D2 D2 w W6 [(b1,23,Ar.Qf J),(b2,38,SC),(b5,29,Vi.vwC y)]):=hide ((Qa M).devB K6 (by simp) R6);clear K6 R6;refine Stp.go ?_))
  constructor
  go_wp2_with (first |(refine QM Vi.Qn (Vi.vwC Vi.zv) rfl Vi.QE 23 rfl rfl rfl (.tmp 135) rfl rfl rfl (Vi.vwC y) (Qa HYL) (Vi.Ql _) (by kernel_rfl) (by kernel_rfl) ?_;intro W7 b7 e7 B7 K7;replace M:=hide ((Qa M).new e7 B7 K7);clear e7 B7 K7;refine Stp.go ?_))
  constructor
  go_wp2_with (first |(refine Qg Vi.Qn rfl (.tmp 20) rfl b5 0 rfl (Vi.vwC y) (Qa HYL) ((Qa M).at 2 _ rfl).range ?_;refine Stp.go ?_))
  constructor
  go_wp2_with (first |(refine Qg Vi.Qn rfl (.tmp 23) rfl b7 0 rfl (Vi.vwC y) (Qa HYL) ((Qa M).at 3 _ rfl).range ?_;refine Stp.go ?_))
  constructor
  go_wp2_with (first |(refine wpEqlA 29 29 Vi.guard26 (.tmp 138) (.tmp 139) rfl rfl (Vi.vwC y) (Vi.vwC y) rfl rfl true ((Vi.equal26 _ y y (Qa HY8) (Qa HY8)).trans (by simp)) ?_;refine Stp.go ?_))
  constructor
  go_wp2_with fail
  go_ret
  exact⟨rfl,(Qa M).p2,(Qa M).kept⟩
set_option linter.unusedVariables false in
theorem does_5A_F:(∀(b g r sg eg:Nat) (D:Dv.Dev) (J:Ar.Job) (n e who be re:Int) (w:World) (h:P2 b g r sg eg D D w) (SC:List Value) (Y0:Hid (SC[0]?=some (.int .i64 5))) (Y1:Hid (SC[1]?=some (.int .i64 n))) (Y2:Hid (SC[2]?=some (.int .i64 e))) (_Y3:Hid (SC[3]?=some (.int .i64 who))) (_Y4:Hid (SC[4]?=some (.int .i64 be))) (_Y5:Hid (SC[5]?=some (.int .i64 re))) (D2:Dv.Dev) (y:Vi.Vw) (yb:Bool) (ye:Int) (hep:¬e= -1) (HY8:Hid (y.ms.length=8)) (HYL:Hid ((Vi.vwC y).length=19)) (PU:Hid (∀W,P2 b g r sg eg D D W→Calls Tryz.prog 34 #[P0 b,Qd (Ar.Qf J),.int .i64 n,.int .i64 e] W fun x w'=>x= .returned (.tuple #[Qd (Vi.vwC y),.bool yb,.int .i64 ye])∧Kept [b,g] W w'∧Dv.Dv w' b g D2)) (PR:Hid (∀W,Dv.Rv W r sg eg D→Calls Tryz.prog 41 #[P0 r,Qd (Ar.Qf J),.int .i64 n,.int .i64 e] W fun x w'=>x= .returned (.tuple #[Qd (Vi.vwC y),.bool yb,.int .i64 ye])∧Dv.Rv w' r sg eg D2∧Kept [r,sg,eg] W w')),Calls Tryz.prog 12 #[P0 b,P0 r,Qd (Ar.Qf J),Qd SC] w fun x w'=>x= .returned (.bool true)∧P2 b g r sg eg D2 D2 w'∧Kept [b,g,r,sg,eg] w w')∧(∀(b g r sg eg:Nat) (D:Dv.Dev) (J:Ar.Job) (n e who be re:Int) (w:World) (h:P2 b g r sg eg D D w) (SC:List Value) (Y0:Hid (SC[0]?=some (.int .i64 5))) (Y1:Hid (SC[1]?=some (.int .i64 n))) (Y2:Hid (SC[2]?=some (.int .i64 (-1)))) (_Y3:Hid (SC[3]?=some (.int .i64 who))) (_Y4:Hid (SC[4]?=some (.int .i64 be))) (_Y5:Hid (SC[5]?=some (.int .i64 re))) (D2:Dv.Dev) (y:Vi.Vw) (yb:Bool) (ye:Int) (e2:Int) (PE:Hid (∀W,Dv.Rv W r sg eg D→Calls Tryz.prog 37 #[P0 r,.int .i64 n] W fun x w'=>x= .returned (.tuple #[.int .i64 e,.int .i64 e2])∧w'=W)) (HY8:Hid (y.ms.length=8)) (HYL:Hid ((Vi.vwC y).length=19)) (PU:Hid (∀W,P2 b g r sg eg D D W→Calls Tryz.prog 34 #[P0 b,Qd (Ar.Qf J),.int .i64 n,.int .i64 e] W fun x w'=>x= .returned (.tuple #[Qd (Vi.vwC y),.bool yb,.int .i64 ye])∧Kept [b,g] W w'∧Dv.Dv w' b g D2)) (PR:Hid (∀W,Dv.Rv W r sg eg D→Calls Tryz.prog 41 #[P0 r,Qd (Ar.Qf J),.int .i64 n,.int .i64 e] W fun x w'=>x= .returned (.tuple #[Qd (Vi.vwC y),.bool yb,.int .i64 ye])∧Dv.Rv w' r sg eg D2∧Kept [r,sg,eg] W w')),Calls Tryz.prog 12 #[P0 b,P0 r,Qd (Ar.Qf J),Qd SC] w fun x w'=>x= .returned (.bool true)∧P2 b g r sg eg D2 D2 w'∧Kept [b,g,r,sg,eg] w w'):=by
 refine⟨fun b g r sg eg D J n e who be re w h SC Y0 Y1 Y2 _Y3 _Y4 _Y5 D2 y yb ye hep HY8 HYL PU PR=> ?_,fun b g r sg eg D J n e who be re w h SC Y0 Y1 Y2 _Y3 _Y4 _Y5 D2 y yb ye e2 PE HY8 HYL PU PR=> ?_⟩;have M:Hid (Pz b g r sg eg D D w w []):=hide (Pz.init h);clear h
 rotate_left
 have M:Hid (Pz b g r sg eg D D w w []):=hide (Pz.init h);clear h
 rotate_left
 all_goals
  go_enter Tryz.func12,Tryz.ntmps12
  go_wp2_with (first |(refine Qp rfl (.tmp 2) rfl (Ar.Qf J) rfl ?_;intro W1 b1 e1 B1 K1;replace M:=hide ((Qa M).new e1 B1 K1);clear e1 B1 K1;refine Stp.go ?_))
  constructor
  go_wp2_with (first |(refine Qp rfl (.tmp 3) rfl (SC) rfl ?_;intro W2 b2 e2 B2 K2;replace M:=hide ((Qa M).new e2 B2 K2);clear e2 B2 K2;have k0:=Qb ((Qa M).at 1 _ rfl) 0 _ (Qa Y0);have k1:=Qb ((Qa M).at 1 _ rfl) 1 _ (Qa Y1);have k2:=Qb ((Qa M).at 1 _ rfl) 2 _ (Qa Y2);refine Stp.go ?_))
  constructor
 rotate_left
 focus
  go_wp2_with (first |(go_at_call 37;refine(Qa PE _ (Qa M).rv).mono ?_;rintro e W3 ⟨rfl,q3⟩;replace q3:=q3.symm;subst q3;refine Stp.go ?_))
  constructor
 rotate_left
 all_goals
  go_wp2_with (first |(refine Qg Zv rfl (.tmp 6) rfl b1 0 rfl (Ar.Qf J) rfl ((Qa M).at 0 _ rfl).range ?_;refine Stp.go ?_))
  constructor
  go_wp2_with (first |(go_at_call 34;refine(Qa PU _ (Qa M).p2).mono ?_;rintro e W4 ⟨rfl,K4,R4⟩;replace M:Hid (Pz b g r sg eg D2 D w W4 [(b1,23,Ar.Qf J),(b2,38,SC)]):=hide ((Qa M).devA K4 R4);clear K4 R4;clear k1;refine Stp.go ?_))
  constructor
  go_wp2_with (first |(refine QM Vi.Qn (Vi.vwC Vi.zv) rfl Vi.QE 30 rfl rfl rfl (.tmp 192) rfl rfl rfl (Vi.vwC y) (Qa HYL) (Vi.Ql _) (by kernel_rfl) (by kernel_rfl) ?_;intro W5 b5 e5 B5 K5;replace M:=hide ((Qa M).new e5 B5 K5);clear e5 B5 K5;have k1:=Qb ((Qa M).at 1 _ rfl) 1 _ (Qa Y1);refine Stp.go ?_))
  constructor
  go_wp2_with (first |(refine Qg Zv rfl (.tmp 6) rfl b1 0 rfl (Ar.Qf J) rfl ((Qa M).at 0 _ rfl).range ?_;refine Stp.go ?_))
  constructor
  go_wp2_with (first |(go_at_call 41;refine(Qa PR _ (Qa M).rv).mono ?_;rintro e W6 ⟨rfl,R6,K6⟩;replace M:Hid (Pz b g r sg eg D2 D2 w W6 [(b1,23,Ar.Qf J),(b2,38,SC),(b5,29,Vi.vwC y)]):=hide ((Qa M).devB K6 (by simp) R6);clear K6 R6;refine Stp.go ?_))
  constructor
  go_wp2_with (first |(refine QM Vi.Qn (Vi.vwC Vi.zv) rfl Vi.QE 33 rfl rfl rfl (.tmp 202) rfl rfl rfl (Vi.vwC y) (Qa HYL) (Vi.Ql _) (by kernel_rfl) (by kernel_rfl) ?_;intro W7 b7 e7 B7 K7;replace M:=hide ((Qa M).new e7 B7 K7);clear e7 B7 K7;refine Stp.go ?_))
  constructor
  go_wp2_with (first |(refine Qg Vi.Qn rfl (.tmp 30) rfl b5 0 rfl (Vi.vwC y) (Qa HYL) ((Qa M).at 2 _ rfl).range ?_;refine Stp.go ?_))
  constructor
  go_wp2_with (first |(refine Qg Vi.Qn rfl (.tmp 33) rfl b7 0 rfl (Vi.vwC y) (Qa HYL) ((Qa M).at 3 _ rfl).range ?_;refine Stp.go ?_))
  constructor
  go_wp2_with (first |(refine wpEqlA 29 29 Vi.guard26 (.tmp 205) (.tmp 206) rfl rfl (Vi.vwC y) (Vi.vwC y) rfl rfl true ((Vi.equal26 _ y y (Qa HY8) (Qa HY8)).trans (by simp)) ?_;refine Stp.go ?_))
  constructor
  go_wp2_with fail
  go_ret
  exact⟨rfl,(Qa M).p2,(Qa M).kept⟩
set_option linter.unusedVariables false in
theorem does_6A_F:(∀(b g r sg eg:Nat) (D:Dv.Dev) (J:Ar.Job) (n e who be re:Int) (w:World) (h:P2 b g r sg eg D D w) (SC:List Value) (Y0:Hid (SC[0]?=some (.int .i64 6))) (Y1:Hid (SC[1]?=some (.int .i64 n))) (Y2:Hid (SC[2]?=some (.int .i64 e))) (_Y3:Hid (SC[3]?=some (.int .i64 who))) (_Y4:Hid (SC[4]?=some (.int .i64 be))) (_Y5:Hid (SC[5]?=some (.int .i64 re))) (y:Le.Le) (ye:Int) (hep:¬e= -1) (PU:Hid (∀W,P2 b g r sg eg D D W→Calls Tryz.prog 30 #[P0 b,Qd (Ar.Qf J),.int .i64 n] W fun x w'=>x= .returned (.tuple #[Qd (Le.Le.C y),.int .i64 ye])∧Kept [] W w')) (PR:Hid (∀W,Dv.Rv W r sg eg D→Calls Tryz.prog 42 #[P0 r,Qd (Ar.Qf J),.int .i64 n] W fun x w'=>x= .returned (.tuple #[Qd (Le.Le.C y),.int .i64 ye])∧Kept [] W w')),Calls Tryz.prog 12 #[P0 b,P0 r,Qd (Ar.Qf J),Qd SC] w fun x w'=>x= .returned (.bool true)∧P2 b g r sg eg D D w'∧Kept [b,g,r,sg,eg] w w')∧(∀(b g r sg eg:Nat) (D:Dv.Dev) (J:Ar.Job) (n e who be re:Int) (w:World) (h:P2 b g r sg eg D D w) (SC:List Value) (Y0:Hid (SC[0]?=some (.int .i64 6))) (Y1:Hid (SC[1]?=some (.int .i64 n))) (Y2:Hid (SC[2]?=some (.int .i64 (-1)))) (_Y3:Hid (SC[3]?=some (.int .i64 who))) (_Y4:Hid (SC[4]?=some (.int .i64 be))) (_Y5:Hid (SC[5]?=some (.int .i64 re))) (y:Le.Le) (ye:Int) (e2:Int) (PE:Hid (∀W,Dv.Rv W r sg eg D→Calls Tryz.prog 37 #[P0 r,.int .i64 n] W fun x w'=>x= .returned (.tuple #[.int .i64 e,.int .i64 e2])∧w'=W)) (PU:Hid (∀W,P2 b g r sg eg D D W→Calls Tryz.prog 30 #[P0 b,Qd (Ar.Qf J),.int .i64 n] W fun x w'=>x= .returned (.tuple #[Qd (Le.Le.C y),.int .i64 ye])∧Kept [] W w')) (PR:Hid (∀W,Dv.Rv W r sg eg D→Calls Tryz.prog 42 #[P0 r,Qd (Ar.Qf J),.int .i64 n] W fun x w'=>x= .returned (.tuple #[Qd (Le.Le.C y),.int .i64 ye])∧Kept [] W w')),Calls Tryz.prog 12 #[P0 b,P0 r,Qd (Ar.Qf J),Qd SC] w fun x w'=>x= .returned (.bool true)∧P2 b g r sg eg D D w'∧Kept [b,g,r,sg,eg] w w'):=by
 refine⟨fun b g r sg eg D J n e who be re w h SC Y0 Y1 Y2 _Y3 _Y4 _Y5 y ye hep PU PR=> ?_,fun b g r sg eg D J n e who be re w h SC Y0 Y1 Y2 _Y3 _Y4 _Y5 y ye e2 PE PU PR=> ?_⟩;have M:Hid (Pz b g r sg eg D D w w []):=hide (Pz.init h);clear h
 rotate_left
 have M:Hid (Pz b g r sg eg D D w w []):=hide (Pz.init h);clear h
 rotate_left
 all_goals
  go_enter Tryz.func12,Tryz.ntmps12
  go_wp2_with (first |(refine Qp rfl (.tmp 2) rfl (Ar.Qf J) rfl ?_;intro W1 b1 e1 B1 K1;replace M:=hide ((Qa M).new e1 B1 K1);clear e1 B1 K1;refine Stp.go ?_))
  constructor
  go_wp2_with (first |(refine Qp rfl (.tmp 3) rfl (SC) rfl ?_;intro W2 b2 e2 B2 K2;replace M:=hide ((Qa M).new e2 B2 K2);clear e2 B2 K2;have k0:=Qb ((Qa M).at 1 _ rfl) 0 _ (Qa Y0);have k1:=Qb ((Qa M).at 1 _ rfl) 1 _ (Qa Y1);have k2:=Qb ((Qa M).at 1 _ rfl) 2 _ (Qa Y2);refine Stp.go ?_))
  constructor
 rotate_left
 focus
  go_wp2_with (first |(go_at_call 37;refine(Qa PE _ (Qa M).rv).mono ?_;rintro e W3 ⟨rfl,q3⟩;replace q3:=q3.symm;subst q3;refine Stp.go ?_))
  constructor
 rotate_left
 all_goals
  go_wp2_with (first |(refine Qg Zv rfl (.tmp 6) rfl b1 0 rfl (Ar.Qf J) rfl ((Qa M).at 0 _ rfl).range ?_;refine Stp.go ?_))
  constructor
  go_wp2_with (first |(go_at_call 30;refine(Qa PU _ (Qa M).p2).mono ?_;rintro e W4 ⟨rfl,K4⟩;replace M:=hide ((Qa M).step K4);clear K4;clear k1;refine Stp.go ?_))
  constructor
  go_wp2_with (first |(refine QM Le.QC (Le.Le.C Le.le0) rfl Le.QT 36 rfl rfl rfl (.tmp 226) rfl rfl rfl (Le.Le.C y) rfl (Le.QV _) (by kernel_rfl) (by kernel_rfl) ?_;intro W5 b5 e5 B5 K5;replace M:=hide ((Qa M).new e5 B5 K5);clear e5 B5 K5;have k1:=Qb ((Qa M).at 1 _ rfl) 1 _ (Qa Y1);refine Stp.go ?_))
  constructor
  go_wp2_with (first |(refine Qg Zv rfl (.tmp 6) rfl b1 0 rfl (Ar.Qf J) rfl ((Qa M).at 0 _ rfl).range ?_;refine Stp.go ?_))
  constructor
  go_wp2_with (first |(go_at_call 42;refine(Qa PR _ (Qa M).rv).mono ?_;rintro e W6 ⟨rfl,K6⟩;replace M:=hide ((Qa M).step K6);clear K6;refine Stp.go ?_))
  constructor
  go_wp2_with (first |(refine QM Le.QC (Le.Le.C Le.le0) rfl Le.QT 38 rfl rfl rfl (.tmp 234) rfl rfl rfl (Le.Le.C y) rfl (Le.QV _) (by kernel_rfl) (by kernel_rfl) ?_;intro W7 b7 e7 B7 K7;replace M:=hide ((Qa M).new e7 B7 K7);clear e7 B7 K7;refine Stp.go ?_))
  constructor
  go_wp2_with (first |(refine Qg Le.QC rfl (.tmp 36) rfl b5 0 rfl (Le.Le.C y) rfl ((Qa M).at 2 _ rfl).range ?_;refine Stp.go ?_))
  constructor
  go_wp2_with (first |(refine Qg Le.QC rfl (.tmp 38) rfl b7 0 rfl (Le.Le.C y) rfl ((Qa M).at 3 _ rfl).range ?_;refine Stp.go ?_))
  constructor
  go_wp2_with (first |(refine wpEqlA 73 73 Le.guard23 (.tmp 236) (.tmp 237) rfl rfl (Le.Le.C y) (Le.Le.C y) rfl rfl true ((Le.eqL23 _ y y).trans (by simp)) ?_;refine Stp.go ?_))
  constructor
  go_wp2_with fail
  go_ret
  exact⟨rfl,(Qa M).p2,(Qa M).kept⟩
set_option linter.unusedVariables false in
theorem does_0A_F:(∀(b g r sg eg:Nat) (D:Dv.Dev) (J:Ar.Job) (kd n e who be re:Int) (w:World) (h:P2 b g r sg eg D D w) (SC:List Value) (Y0:Hid (SC[0]?=some (.int .i64 kd))) (Y1:Hid (SC[1]?=some (.int .i64 n))) (Y2:Hid (SC[2]?=some (.int .i64 e))) (_Y3:Hid (SC[3]?=some (.int .i64 who))) (_Y4:Hid (SC[4]?=some (.int .i64 be))) (_Y5:Hid (SC[5]?=some (.int .i64 re))) (hep:¬e= -1) (q1:¬kd=1) (q2:¬kd=2) (q3:¬kd=3) (q4:¬kd=4) (q5:¬kd=5) (q6:¬kd=6),Calls Tryz.prog 12 #[P0 b,P0 r,Qd (Ar.Qf J),Qd SC] w fun x w'=>x= .returned (.bool true)∧P2 b g r sg eg D D w'∧Kept [b,g,r,sg,eg] w w')∧(∀(b g r sg eg:Nat) (D:Dv.Dev) (J:Ar.Job) (kd n e who be re:Int) (w:World) (h:P2 b g r sg eg D D w) (SC:List Value) (Y0:Hid (SC[0]?=some (.int .i64 kd))) (Y1:Hid (SC[1]?=some (.int .i64 n))) (Y2:Hid (SC[2]?=some (.int .i64 (-1)))) (_Y3:Hid (SC[3]?=some (.int .i64 who))) (_Y4:Hid (SC[4]?=some (.int .i64 be))) (_Y5:Hid (SC[5]?=some (.int .i64 re))) (e2:Int) (PE:Hid (∀W,Dv.Rv W r sg eg D→Calls Tryz.prog 37 #[P0 r,.int .i64 n] W fun x w'=>x= .returned (.tuple #[.int .i64 e,.int .i64 e2])∧w'=W)) (q1:¬kd=1) (q2:¬kd=2) (q3:¬kd=3) (q4:¬kd=4) (q5:¬kd=5) (q6:¬kd=6),Calls Tryz.prog 12 #[P0 b,P0 r,Qd (Ar.Qf J),Qd SC] w fun x w'=>x= .returned (.bool true)∧P2 b g r sg eg D D w'∧Kept [b,g,r,sg,eg] w w'):=by
 refine⟨fun b g r sg eg D J kd n e who be re w h SC Y0 Y1 Y2 _Y3 _Y4 _Y5 hep q1 q2 q3 q4 q5 q6=> ?_,fun b g r sg eg D J kd n e who be re w h SC Y0 Y1 Y2 _Y3 _Y4 _Y5 e2 PE q1 q2 q3 q4 q5 q6=> ?_⟩;have M:Hid (Pz b g r sg eg D D w w []):=hide (Pz.init h);clear h
 rotate_left
 have M:Hid (Pz b g r sg eg D D w w []):=hide (Pz.init h);clear h
 rotate_left
 all_goals
   go_enter Tryz.func12,Tryz.ntmps12
   go_wp2_with (first |(refine Qp rfl (.tmp 2) rfl (Ar.Qf J) rfl ?_;intro W1 b1 e1 B1 K1;replace M:=hide ((Qa M).new e1 B1 K1);clear e1 B1 K1;refine Stp.go ?_))
   constructor
   go_wp2_with (first |(refine Qp rfl (.tmp 3) rfl (SC) rfl ?_;intro W2 b2 e2 B2 K2;replace M:=hide ((Qa M).new e2 B2 K2);clear e2 B2 K2;have k0:=Qb ((Qa M).at 1 _ rfl) 0 _ (Qa Y0);have k1:=Qb ((Qa M).at 1 _ rfl) 1 _ (Qa Y1);have k2:=Qb ((Qa M).at 1 _ rfl) 2 _ (Qa Y2);refine Stp.go ?_))
   constructor
 · go_wp2_with fail
   go_ret
   exact⟨rfl,(Qa M).p2,(Qa M).kept⟩
 go_wp2_with (first |(go_at_call 37;refine(Qa PE _ (Qa M).rv).mono ?_;rintro e W3 ⟨rfl,q3⟩;replace q3:=q3.symm;subst q3;refine Stp.go ?_))
 constructor
 go_wp2_with fail
 go_ret
 exact⟨rfl,(Qa M).p2,(Qa M).kept⟩
set_option linter.unusedVariables false in
theorem does_4Aa_F:(∀(b g r sg eg:Nat) (D:Dv.Dev) (J:Ar.Job) (n e who be re:Int) (w:World) (h:P2 b g r sg eg D D w) (SC:List Value) (Y0:Hid (SC[0]?=some (.int .i64 4))) (Y1:Hid (SC[1]?=some (.int .i64 n))) (Y2:Hid (SC[2]?=some (.int .i64 e))) (_Y3:Hid (SC[3]?=some (.int .i64 who))) (Y4:Hid (SC[4]?=some (.int .i64 be))) (Y5:Hid (SC[5]?=some (.int .i64 re))) (D2:Dv.Dev) (se:Int) (hep:¬e= -1) (hre:¬re= -1) (PU:Hid (∀W,Dv.Dv W b g D→Calls Tryz.prog 31 #[P0 b,Qd (Ar.Qf J),.int .i64 n,Qd (Le.Le.C ⟨e,be,re⟩)] W fun x w'=>x= .returned (.int .i64 se)∧Kept [b,g] W w'∧Dv.Dv w' b g D2)) (PR:Hid (∀W,Dv.Rv W r sg eg D→Calls Tryz.prog 40 #[P0 r,Qd (Ar.Qf J),.int .i64 n,Qd (Le.Le.C ⟨e,be,re⟩)] W fun x w'=>x= .returned (.int .i64 se)∧Dv.Rv w' r sg eg D2∧Kept [r,sg,eg] W w')),Calls Tryz.prog 12 #[P0 b,P0 r,Qd (Ar.Qf J),Qd SC] w fun x w'=>x= .returned (.bool true)∧P2 b g r sg eg D2 D2 w'∧Kept [b,g,r,sg,eg] w w')∧(∀(b g r sg eg:Nat) (D:Dv.Dev) (J:Ar.Job) (n e who be re:Int) (w:World) (h:P2 b g r sg eg D D w) (SC:List Value) (Y0:Hid (SC[0]?=some (.int .i64 4))) (Y1:Hid (SC[1]?=some (.int .i64 n))) (Y2:Hid (SC[2]?=some (.int .i64 (-1)))) (_Y3:Hid (SC[3]?=some (.int .i64 who))) (Y4:Hid (SC[4]?=some (.int .i64 be))) (Y5:Hid (SC[5]?=some (.int .i64 re))) (D2:Dv.Dev) (se:Int) (e2:Int) (PE:Hid (∀W,Dv.Rv W r sg eg D→Calls Tryz.prog 37 #[P0 r,.int .i64 n] W fun x w'=>x= .returned (.tuple #[.int .i64 e,.int .i64 e2])∧w'=W)) (hre:¬re= -1) (PU:Hid (∀W,Dv.Dv W b g D→Calls Tryz.prog 31 #[P0 b,Qd (Ar.Qf J),.int .i64 n,Qd (Le.Le.C ⟨e,be,re⟩)] W fun x w'=>x= .returned (.int .i64 se)∧Kept [b,g] W w'∧Dv.Dv w' b g D2)) (PR:Hid (∀W,Dv.Rv W r sg eg D→Calls Tryz.prog 40 #[P0 r,Qd (Ar.Qf J),.int .i64 n,Qd (Le.Le.C ⟨e,be,re⟩)] W fun x w'=>x= .returned (.int .i64 se)∧Dv.Rv w' r sg eg D2∧Kept [r,sg,eg] W w')),Calls Tryz.prog 12 #[P0 b,P0 r,Qd (Ar.Qf J),Qd SC] w fun x w'=>x= .returned (.bool true)∧P2 b g r sg eg D2 D2 w'∧Kept [b,g,r,sg,eg] w w'):=by
 refine⟨fun b g r sg eg D J n e who be re w h SC Y0 Y1 Y2 _Y3 Y4 Y5 D2 se hep hre PU PR=> ?_,fun b g r sg eg D J n e who be re w h SC Y0 Y1 Y2 _Y3 Y4 Y5 D2 se e2 PE hre PU PR=> ?_⟩;have M:Hid (Pz b g r sg eg D D w w []):=hide (Pz.init h);clear h
 rotate_left
 have M:Hid (Pz b g r sg eg D D w w []):=hide (Pz.init h);clear h
 rotate_left
 all_goals
  go_enter Tryz.func12,Tryz.ntmps12
  go_wp2_with (first |(refine Qp rfl (.tmp 2) rfl (Ar.Qf J) rfl ?_;intro W1 b1 e1 B1 K1;replace M:=hide ((Qa M).new e1 B1 K1);clear e1 B1 K1;refine Stp.go ?_))
  constructor
  go_wp2_with (first |(refine Qp rfl (.tmp 3) rfl (SC) rfl ?_;intro W2 b2 e2 B2 K2;replace M:=hide ((Qa M).new e2 B2 K2);clear e2 B2 K2;have k0:=Qb ((Qa M).at 1 _ rfl) 0 _ (Qa Y0);have k1:=Qb ((Qa M).at 1 _ rfl) 1 _ (Qa Y1);have k2:=Qb ((Qa M).at 1 _ rfl) 2 _ (Qa Y2);have k5:=Qb ((Qa M).at 1 _ rfl) 5 _ (Qa Y5);have k4:=Qb ((Qa M).at 1 _ rfl) 4 _ (Qa Y4);refine Stp.go ?_))
  constructor
 rotate_left
 focus
  go_wp2_with (first |(go_at_call 37;refine(Qa PE _ (Qa M).rv).mono ?_;rintro e W3 ⟨rfl,q3⟩;replace q3:=q3.symm;subst q3;refine Stp.go ?_))
  constructor
 rotate_left
 all_goals
  go_wp2_with (first |(refine Ar.Zm rfl #[(0,.tmp 165),(1,.tmp 167),(2,.tmp 168)] rfl #[(0,.int .i64 e),(1,.int .i64 be),(2,.int .i64 re)] (by simp [Act.eval]) (Le.Le.C ⟨e,be,re⟩) (Le.build23p _ _ _ _) ?_;refine Stp.go ?_))
  constructor
  go_wp2_with (first |(refine QM Le.QC (Le.Le.C Le.le0) rfl Le.QT 29 rfl rfl rfl (.tmp 169) rfl rfl rfl (Le.Le.C ⟨e,be,re⟩) rfl (Le.QV _) (by kernel_rfl) (by kernel_rfl) ?_;intro W4 b4 e4 B4 K4;replace M:=hide ((Qa M).new e4 B4 K4);clear e4 B4 K4;refine Stp.go ?_))
  constructor
  go_wp2_with fail
  refine wp_region_any mixed (QL 14 rfl (by kernel_rfl) [some (P0 b),some (Qd (Ar.Qf J)),some (.pointer (some ⟨b2,1,none⟩)),some (.int .i64 n),some (Qd (Le.Le.C ⟨e,be,re⟩)),some (.int .i64 se),some (P0 r),some (Qd (Ar.Qf J)),some (.pointer (some ⟨b2,1,none⟩)),some (.int .i64 n),some (Qd (Le.Le.C ⟨e,be,re⟩)),some (.int .i64 se),some (.bool true),some (.bool true)] rfl (by kernel_rfl) (fun l vs W=>(SB W4 b g r sg eg D D2) (fun i=>l.getD i false) vs W) (⟨⟨rfl,rfl,rfl,Nat.le_refl _,fun _ _ _=>rfl⟩,(Qa M).p2.keptX (X:= []) ⟨rfl,rfl,rfl,Nat.le_refl _,fun _ _ _=>rfl⟩ (fun _ _=>by simp) (by simp)⟩) ?_ ?_)
  · intro ix o' hi ho a' w2 l_ vs hls hlf hJ hout hin hdep hnot
    match ix,ho with
    | 0,ho=>
     obtain rfl:=Oj9 ho;have e0:=hout 0 (by kernel_rfl);replace e0:a'.eval (.tmp 0)=_:=e0.trans rfl;exact wp_move (.tmp 0) rfl _ e0 ⟨_,rfl,Qe rfl,Le.Qj [5,11] SB.loc (by omega) (by decide) hJ⟩
    | 1,ho=>
     obtain rfl:=Oj9 ho;have e0:=hout 6 (by kernel_rfl);replace e0:a'.eval (.tmp 6)=_:=e0.trans rfl;exact Qw Zv (.tmp 6) rfl b1 0 e0 (Ar.Qf J) rfl (((Qa M).at 0 _ rfl).kept hJ.1 ((Qa M).ne (b1,23,Ar.Qf J) (by simp))).range ⟨_,rfl,Qe rfl,Le.Qj [5,11] SB.loc (by omega) (by decide) hJ⟩
    | 2,ho=>
     obtain rfl:=Oj9 ho;have e0:=hout 7 (by kernel_rfl);replace e0:a'.eval (.tmp 7)=_:=e0.trans rfl;exact o_fldS1 (.tmp 7) rfl b2 e0 ⟨_,rfl,Qe rfl,Le.Qj [5,11] SB.loc (by omega) (by decide) hJ⟩
    | 3,ho=>
     obtain rfl:=Oj9 ho;have e0:a'.eval (.tmp 172)= .pointer (some ⟨b2,1,none⟩):=by have h9:=hin 2 172 (by kernel_rfl) (by kernel_rfl);exact h9.1.trans (Qc _ h9.2 rfl)
     exact Ar.Zx (.tmp 172) rfl _ _ e0 (Qb (((Qa M).at 1 _ rfl).kept hJ.1 ((Qa M).ne (b2,38,SC) (by simp))) 1 _ (Qa Y1)) ⟨_,rfl,Qe rfl,Le.Qj [5,11] SB.loc (by omega) (by decide) hJ⟩
    | 4,ho=>
     obtain rfl:=Oj9 ho;have e0:=hout 29 (by kernel_rfl);replace e0:a'.eval (.tmp 29)=_:=e0.trans rfl;exact Qw Le.QC (.tmp 29) rfl b4 0 e0 (Le.Le.C ⟨e,be,re⟩) rfl (((Qa M).at 2 _ rfl).kept hJ.1 ((Qa M).ne (b4,73,Le.Le.C ⟨e,be,re⟩) (by simp))).range ⟨_,rfl,Qe rfl,Le.Qj [5,11] SB.loc (by omega) (by decide) hJ⟩
    | 5,ho=>
     obtain rfl:=Oj9 ho;have e0:a'.eval (.tmp 170)=P0 b:=by have h9:=hin 0 170 (by kernel_rfl) (by kernel_rfl);exact h9.1.trans (Qc _ h9.2 rfl)
     have e1:a'.eval (.tmp 171)=Qd (Ar.Qf J):=by have h9:=hin 1 171 (by kernel_rfl) (by kernel_rfl);exact h9.1.trans (Qc _ h9.2 rfl)
     have e2:a'.eval (.tmp 173)= .int .i64 n:=by have h9:=hin 3 173 (by kernel_rfl) (by kernel_rfl);exact h9.1.trans (Qc _ h9.2 rfl)
     have e3:a'.eval (.tmp 174)=Qd (Le.Le.C ⟨e,be,re⟩):=by have h9:=hin 4 174 (by kernel_rfl) (by kernel_rfl);exact h9.1.trans (Qc _ h9.2 rfl)
     have hP:=hJ.2;have e9:(bif l_.getD 5 false then D2 else D)=D:=by rw [show l_.getD 5 false=false from hlf];rfl
     simp only [e9] at hP;refine Qq 31 _ _ rfl #[P0 b,Qd (Ar.Qf J),.int .i64 n,Qd (Le.Le.C ⟨e,be,re⟩)] (by simp [e0,e1,e2,e3]) (cg31 _ _) ((Qa PU w2 hP.dv).mono ?_);rintro e w3 ⟨rfl,hk3,hR3⟩;exact⟨_,rfl,_,rfl,Qe rfl,Le.QJ (by omega) ⟨hJ.1.trans (hk3.mono (by simp)),hP.devA hk3 hR3⟩⟩
    | 6,ho=>
     obtain rfl:=Oj9 ho;have e0:=hout 1 (by kernel_rfl);replace e0:a'.eval (.tmp 1)=_:=e0.trans rfl;exact wp_move (.tmp 1) rfl _ e0 ⟨_,rfl,Qe rfl,Le.Qj [5,11] SB.loc (by omega) (by decide) hJ⟩
    | 7,ho=>
     obtain rfl:=Oj9 ho;have e0:=hout 6 (by kernel_rfl);replace e0:a'.eval (.tmp 6)=_:=e0.trans rfl;exact Qw Zv (.tmp 6) rfl b1 0 e0 (Ar.Qf J) rfl (((Qa M).at 0 _ rfl).kept hJ.1 ((Qa M).ne (b1,23,Ar.Qf J) (by simp))).range ⟨_,rfl,Qe rfl,Le.Qj [5,11] SB.loc (by omega) (by decide) hJ⟩
    | 8,ho=>
     obtain rfl:=Oj9 ho;have e0:=hout 7 (by kernel_rfl);replace e0:a'.eval (.tmp 7)=_:=e0.trans rfl;exact o_fldS1 (.tmp 7) rfl b2 e0 ⟨_,rfl,Qe rfl,Le.Qj [5,11] SB.loc (by omega) (by decide) hJ⟩
    | 9,ho=>
     obtain rfl:=Oj9 ho;have e0:a'.eval (.tmp 178)= .pointer (some ⟨b2,1,none⟩):=by have h9:=hin 8 178 (by kernel_rfl) (by kernel_rfl);exact h9.1.trans (Qc _ h9.2 rfl)
     exact Ar.Zx (.tmp 178) rfl _ _ e0 (Qb (((Qa M).at 1 _ rfl).kept hJ.1 ((Qa M).ne (b2,38,SC) (by simp))) 1 _ (Qa Y1)) ⟨_,rfl,Qe rfl,Le.Qj [5,11] SB.loc (by omega) (by decide) hJ⟩
    | 10,ho=>
     obtain rfl:=Oj9 ho;have e0:=hout 29 (by kernel_rfl);replace e0:a'.eval (.tmp 29)=_:=e0.trans rfl;exact Qw Le.QC (.tmp 29) rfl b4 0 e0 (Le.Le.C ⟨e,be,re⟩) rfl (((Qa M).at 2 _ rfl).kept hJ.1 ((Qa M).ne (b4,73,Le.Le.C ⟨e,be,re⟩) (by simp))).range ⟨_,rfl,Qe rfl,Le.Qj [5,11] SB.loc (by omega) (by decide) hJ⟩
    | 11,ho=>
     obtain rfl:=Oj9 ho;have e0:a'.eval (.tmp 176)=P0 r:=by have h9:=hin 6 176 (by kernel_rfl) (by kernel_rfl);exact h9.1.trans (Qc _ h9.2 rfl)
     have e1:a'.eval (.tmp 177)=Qd (Ar.Qf J):=by have h9:=hin 7 177 (by kernel_rfl) (by kernel_rfl);exact h9.1.trans (Qc _ h9.2 rfl)
     have e2:a'.eval (.tmp 179)= .int .i64 n:=by have h9:=hin 9 179 (by kernel_rfl) (by kernel_rfl);exact h9.1.trans (Qc _ h9.2 rfl)
     have e3:a'.eval (.tmp 180)=Qd (Le.Le.C ⟨e,be,re⟩):=by have h9:=hin 10 180 (by kernel_rfl) (by kernel_rfl);exact h9.1.trans (Qc _ h9.2 rfl)
     have hP:=hJ.2;have e9:(bif l_.getD 11 false then D2 else D)=D:=by rw [show l_.getD 11 false=false from hlf];rfl
     simp only [e9] at hP;refine Qq 40 _ _ rfl #[P0 r,Qd (Ar.Qf J),.int .i64 n,Qd (Le.Le.C ⟨e,be,re⟩)] (by simp [e0,e1,e2,e3]) (cg40 _ _) ((Qa PR w2 hP.rv).mono ?_);rintro e w3 ⟨rfl,hR3,hk3⟩;exact⟨_,rfl,_,rfl,Qe rfl,Le.QJ (by omega) ⟨hJ.1.trans (hk3.mono (by simp)),hP.devB hk3 hR3⟩⟩
    | 12,ho=>
     obtain rfl:=Oj9 ho;have e0:a'.eval (.tmp 175)= .int .i64 se:=by have h9:=hin 5 175 (by kernel_rfl) (by kernel_rfl);exact h9.1.trans (Qc _ h9.2 rfl)
     have e1:a'.eval (.tmp 181)= .int .i64 se:=by have h9:=hin 11 181 (by kernel_rfl) (by kernel_rfl);exact h9.1.trans (Qc _ h9.2 rfl)
     exact o_eql33 (.tmp 175) (.tmp 181) rfl _ _ true (by simp) e0 e1 ⟨_,rfl,Qe rfl,Le.Qj [5,11] SB.loc (by omega) (by decide) hJ⟩
    | 13,ho=>
     obtain rfl:=Oj9 ho;have e0:a'.eval (.tmp 182)= .bool true:=by have h9:=hin 12 182 (by kernel_rfl) (by kernel_rfl);exact h9.1.trans (Qc _ h9.2 rfl)
     exact QI (.tmp 182) rfl _ e0 ⟨_,rfl,Qe rfl,Le.Qj [5,11] SB.loc (by omega) (by decide) hJ⟩
  intro l_ vs9 V9 hl hJ htold;have t0:vs9 0=P0 b:=Qc _ (htold 0 (by decide)) rfl;have t1:vs9 1=Qd (Ar.Qf J):=Qc _ (htold 1 (by decide)) rfl;have t2:vs9 2= .pointer (some ⟨b2,1,none⟩):=Qc _ (htold 2 (by decide)) rfl;have t3:vs9 3= .int .i64 n:=Qc _ (htold 3 (by decide)) rfl;have t4:vs9 4=Qd (Le.Le.C ⟨e,be,re⟩):=Qc _ (htold 4 (by decide)) rfl;have t5:vs9 5= .int .i64 se:=Qc _ (htold 5 (by decide)) rfl;have t6:vs9 6=P0 r:=Qc _ (htold 6 (by decide)) rfl;have t7:vs9 7=Qd (Ar.Qf J):=Qc _ (htold 7 (by decide)) rfl;have t8:vs9 8= .pointer (some ⟨b2,1,none⟩):=Qc _ (htold 8 (by decide)) rfl;have t9:vs9 9= .int .i64 n:=Qc _ (htold 9 (by decide)) rfl;have t10:vs9 10=Qd (Le.Le.C ⟨e,be,re⟩):=Qc _ (htold 10 (by decide)) rfl;have t11:vs9 11= .int .i64 se:=Qc _ (htold 11 (by decide)) rfl;have t12:vs9 12= .bool true:=Qc _ (htold 12 (by decide)) rfl;have t13:vs9 13= .bool true:=Qc _ (htold 13 (by decide)) rfl;rw [show (List.range 14).map vs9= [vs9 0,vs9 1,vs9 2,vs9 3,vs9 4,vs9 5,vs9 6,vs9 7,vs9 8,vs9 9,vs9 10,vs9 11,vs9 12,vs9 13] from rfl];simp only [t0,t1,t2,t3,t4,t5,t6,t7,t8,t9,t10,t11,t12,t13,Qz,Act.put,List.setIfInBounds_toArray,List.set_cons_succ,List.set_cons_zero];clear t0 t1 t2 t3 t4 t5 t6 t7 t8 t9 t10 t11 t12 t13 htold;have hP:=hJ.2;have hK:=(Qa M).kept.trans hJ.1;simp only [hl 5 (by decide),hl 11 (by decide),cond_true] at hP;clear hJ hl;go_wp2_with fail
  go_ret
  exact⟨rfl,hP,hK⟩
set_option linter.unusedVariables false in
theorem does_4Ab_F:(∀(b g r sg eg:Nat) (D:Dv.Dev) (J:Ar.Job) (n e who be:Int) (w:World) (h:P2 b g r sg eg D D w) (SC:List Value) (Y0:Hid (SC[0]?=some (.int .i64 4))) (Y1:Hid (SC[1]?=some (.int .i64 n))) (Y2:Hid (SC[2]?=some (.int .i64 e))) (_Y3:Hid (SC[3]?=some (.int .i64 who))) (Y4:Hid (SC[4]?=some (.int .i64 be))) (Y5:Hid (SC[5]?=some (.int .i64 (-1)))) (D2:Dv.Dev) (se:Int) (v:Vi.Vw) (ve:Int) (hep:¬e= -1) (HVL:Hid ((Vi.vwC v).length=19)) (PV:Hid (∀W,Dv.Rv W r sg eg D→Calls Tryz.prog 14 #[P0 r,Qd (Ar.Qf J)] W fun x w'=>x= .returned (.tuple #[Qd (Vi.vwC v),.int .i64 ve])∧Kept [] W w')) (PU:Hid (∀W,Dv.Dv W b g D→Calls Tryz.prog 31 #[P0 b,Qd (Ar.Qf J),.int .i64 n,Qd (Le.Le.C ⟨e,be,v.nu⟩)] W fun x w'=>x= .returned (.int .i64 se)∧Kept [b,g] W w'∧Dv.Dv w' b g D2)) (PR:Hid (∀W,Dv.Rv W r sg eg D→Calls Tryz.prog 40 #[P0 r,Qd (Ar.Qf J),.int .i64 n,Qd (Le.Le.C ⟨e,be,v.nu⟩)] W fun x w'=>x= .returned (.int .i64 se)∧Dv.Rv w' r sg eg D2∧Kept [r,sg,eg] W w')),Calls Tryz.prog 12 #[P0 b,P0 r,Qd (Ar.Qf J),Qd SC] w fun x w'=>x= .returned (.bool true)∧P2 b g r sg eg D2 D2 w'∧Kept [b,g,r,sg,eg] w w')∧(∀(b g r sg eg:Nat) (D:Dv.Dev) (J:Ar.Job) (n e who be:Int) (w:World) (h:P2 b g r sg eg D D w) (SC:List Value) (Y0:Hid (SC[0]?=some (.int .i64 4))) (Y1:Hid (SC[1]?=some (.int .i64 n))) (Y2:Hid (SC[2]?=some (.int .i64 (-1)))) (_Y3:Hid (SC[3]?=some (.int .i64 who))) (Y4:Hid (SC[4]?=some (.int .i64 be))) (Y5:Hid (SC[5]?=some (.int .i64 (-1)))) (D2:Dv.Dev) (se:Int) (v:Vi.Vw) (ve:Int) (e2:Int) (PE:Hid (∀W,Dv.Rv W r sg eg D→Calls Tryz.prog 37 #[P0 r,.int .i64 n] W fun x w'=>x= .returned (.tuple #[.int .i64 e,.int .i64 e2])∧w'=W)) (HVL:Hid ((Vi.vwC v).length=19)) (PV:Hid (∀W,Dv.Rv W r sg eg D→Calls Tryz.prog 14 #[P0 r,Qd (Ar.Qf J)] W fun x w'=>x= .returned (.tuple #[Qd (Vi.vwC v),.int .i64 ve])∧Kept [] W w')) (PU:Hid (∀W,Dv.Dv W b g D→Calls Tryz.prog 31 #[P0 b,Qd (Ar.Qf J),.int .i64 n,Qd (Le.Le.C ⟨e,be,v.nu⟩)] W fun x w'=>x= .returned (.int .i64 se)∧Kept [b,g] W w'∧Dv.Dv w' b g D2)) (PR:Hid (∀W,Dv.Rv W r sg eg D→Calls Tryz.prog 40 #[P0 r,Qd (Ar.Qf J),.int .i64 n,Qd (Le.Le.C ⟨e,be,v.nu⟩)] W fun x w'=>x= .returned (.int .i64 se)∧Dv.Rv w' r sg eg D2∧Kept [r,sg,eg] W w')),Calls Tryz.prog 12 #[P0 b,P0 r,Qd (Ar.Qf J),Qd SC] w fun x w'=>x= .returned (.bool true)∧P2 b g r sg eg D2 D2 w'∧Kept [b,g,r,sg,eg] w w'):=by
 refine⟨fun b g r sg eg D J n e who be w h SC Y0 Y1 Y2 _Y3 Y4 Y5 D2 se v ve hep HVL PV PU PR=> ?_,fun b g r sg eg D J n e who be w h SC Y0 Y1 Y2 _Y3 Y4 Y5 D2 se v ve e2 PE HVL PV PU PR=> ?_⟩;have M:Hid (Pz b g r sg eg D D w w []):=hide (Pz.init h);clear h
 rotate_left
 have M:Hid (Pz b g r sg eg D D w w []):=hide (Pz.init h);clear h
 rotate_left
 all_goals
  go_enter Tryz.func12,Tryz.ntmps12
  go_wp2_with (first |(refine Qp rfl (.tmp 2) rfl (Ar.Qf J) rfl ?_;intro W1 b1 e1 B1 K1;replace M:=hide ((Qa M).new e1 B1 K1);clear e1 B1 K1;refine Stp.go ?_))
  constructor
  go_wp2_with (first |(refine Qp rfl (.tmp 3) rfl (SC) rfl ?_;intro W2 b2 e2 B2 K2;replace M:=hide ((Qa M).new e2 B2 K2);clear e2 B2 K2;have k0:=Qb ((Qa M).at 1 _ rfl) 0 _ (Qa Y0);have k1:=Qb ((Qa M).at 1 _ rfl) 1 _ (Qa Y1);have k2:=Qb ((Qa M).at 1 _ rfl) 2 _ (Qa Y2);have k5:=Qb ((Qa M).at 1 _ rfl) 5 _ (Qa Y5);refine Stp.go ?_))
  constructor
 rotate_left
 focus
  go_wp2_with (first |(go_at_call 37;refine(Qa PE _ (Qa M).rv).mono ?_;rintro e W3 ⟨rfl,q3⟩;replace q3:=q3.symm;subst q3;refine Stp.go ?_))
  constructor
 rotate_left
 all_goals
  go_wp2_with (first |(refine Qg Zv rfl (.tmp 6) rfl b1 0 rfl (Ar.Qf J) rfl ((Qa M).at 0 _ rfl).range ?_;refine Stp.go ?_))
  constructor
  go_wp2_with (first |(go_at_call 14;refine(Qa PV _ (Qa M).rv).mono ?_;rintro e W4 ⟨rfl,K4⟩;replace M:=hide ((Qa M).step K4);clear K4;refine Stp.go ?_))
  constructor
  go_wp2_with (first |(refine QM Vi.Qn (Vi.vwC Vi.zv) rfl Vi.QE 27 rfl rfl rfl (.tmp 161) rfl rfl rfl (Vi.vwC v) (Qa HVL) (Vi.Ql _) (by kernel_rfl) (by kernel_rfl) ?_;intro W5 b5 e5 B5 K5;replace M:=hide ((Qa M).new e5 B5 K5);clear e5 B5 K5;clear k5;have k4:=Qb ((Qa M).at 1 _ rfl) 4 _ (Qa Y4);have k9:=Qb ((Qa M).at 2 _ rfl) 0 (.int .i64 v.nu) rfl;refine Stp.go ?_))
  constructor
  go_wp2_with (first |(refine Ar.Zm rfl #[(0,.tmp 165),(1,.tmp 167),(2,.tmp 168)] rfl #[(0,.int .i64 e),(1,.int .i64 be),(2,.int .i64 v.nu)] (by simp [Act.eval]) (Le.Le.C ⟨e,be,v.nu⟩) (Le.build23p _ _ _ _) ?_;refine Stp.go ?_))
  constructor
  go_wp2_with (first |(refine QM Le.QC (Le.Le.C Le.le0) rfl Le.QT 29 rfl rfl rfl (.tmp 169) rfl rfl rfl (Le.Le.C ⟨e,be,v.nu⟩) rfl (Le.QV _) (by kernel_rfl) (by kernel_rfl) ?_;intro W6 b6 e6 B6 K6;replace M:=hide ((Qa M).new e6 B6 K6);clear e6 B6 K6;refine Stp.go ?_))
  constructor
  go_wp2_with fail
  refine wp_region_any mixed (QL 14 rfl (by kernel_rfl) [some (P0 b),some (Qd (Ar.Qf J)),some (.pointer (some ⟨b2,1,none⟩)),some (.int .i64 n),some (Qd (Le.Le.C ⟨e,be,v.nu⟩)),some (.int .i64 se),some (P0 r),some (Qd (Ar.Qf J)),some (.pointer (some ⟨b2,1,none⟩)),some (.int .i64 n),some (Qd (Le.Le.C ⟨e,be,v.nu⟩)),some (.int .i64 se),some (.bool true),some (.bool true)] rfl (by kernel_rfl) (fun l vs W=>(SB W6 b g r sg eg D D2) (fun i=>l.getD i false) vs W) (⟨⟨rfl,rfl,rfl,Nat.le_refl _,fun _ _ _=>rfl⟩,(Qa M).p2.keptX (X:= []) ⟨rfl,rfl,rfl,Nat.le_refl _,fun _ _ _=>rfl⟩ (fun _ _=>by simp) (by simp)⟩) ?_ ?_)
  · intro ix o' hi ho a' w2 l_ vs hls hlf hJ hout hin hdep hnot
    match ix,ho with
    | 0,ho=>
     obtain rfl:=Oj9 ho;have e0:=hout 0 (by kernel_rfl);replace e0:a'.eval (.tmp 0)=_:=e0.trans rfl;exact wp_move (.tmp 0) rfl _ e0 ⟨_,rfl,Qe rfl,Le.Qj [5,11] SB.loc (by omega) (by decide) hJ⟩
    | 1,ho=>
     obtain rfl:=Oj9 ho;have e0:=hout 6 (by kernel_rfl);replace e0:a'.eval (.tmp 6)=_:=e0.trans rfl;exact Qw Zv (.tmp 6) rfl b1 0 e0 (Ar.Qf J) rfl (((Qa M).at 0 _ rfl).kept hJ.1 ((Qa M).ne (b1,23,Ar.Qf J) (by simp))).range ⟨_,rfl,Qe rfl,Le.Qj [5,11] SB.loc (by omega) (by decide) hJ⟩
    | 2,ho=>
     obtain rfl:=Oj9 ho;have e0:=hout 7 (by kernel_rfl);replace e0:a'.eval (.tmp 7)=_:=e0.trans rfl;exact o_fldS1 (.tmp 7) rfl b2 e0 ⟨_,rfl,Qe rfl,Le.Qj [5,11] SB.loc (by omega) (by decide) hJ⟩
    | 3,ho=>
     obtain rfl:=Oj9 ho;have e0:a'.eval (.tmp 172)= .pointer (some ⟨b2,1,none⟩):=by have h9:=hin 2 172 (by kernel_rfl) (by kernel_rfl);exact h9.1.trans (Qc _ h9.2 rfl)
     exact Ar.Zx (.tmp 172) rfl _ _ e0 (Qb (((Qa M).at 1 _ rfl).kept hJ.1 ((Qa M).ne (b2,38,SC) (by simp))) 1 _ (Qa Y1)) ⟨_,rfl,Qe rfl,Le.Qj [5,11] SB.loc (by omega) (by decide) hJ⟩
    | 4,ho=>
     obtain rfl:=Oj9 ho;have e0:=hout 29 (by kernel_rfl);replace e0:a'.eval (.tmp 29)=_:=e0.trans rfl;exact Qw Le.QC (.tmp 29) rfl b6 0 e0 (Le.Le.C ⟨e,be,v.nu⟩) rfl (((Qa M).at 3 _ rfl).kept hJ.1 ((Qa M).ne (b6,73,Le.Le.C ⟨e,be,v.nu⟩) (by simp))).range ⟨_,rfl,Qe rfl,Le.Qj [5,11] SB.loc (by omega) (by decide) hJ⟩
    | 5,ho=>
     obtain rfl:=Oj9 ho;have e0:a'.eval (.tmp 170)=P0 b:=by have h9:=hin 0 170 (by kernel_rfl) (by kernel_rfl);exact h9.1.trans (Qc _ h9.2 rfl)
     have e1:a'.eval (.tmp 171)=Qd (Ar.Qf J):=by have h9:=hin 1 171 (by kernel_rfl) (by kernel_rfl);exact h9.1.trans (Qc _ h9.2 rfl)
     have e2:a'.eval (.tmp 173)= .int .i64 n:=by have h9:=hin 3 173 (by kernel_rfl) (by kernel_rfl);exact h9.1.trans (Qc _ h9.2 rfl)
     have e3:a'.eval (.tmp 174)=Qd (Le.Le.C ⟨e,be,v.nu⟩):=by have h9:=hin 4 174 (by kernel_rfl) (by kernel_rfl);exact h9.1.trans (Qc _ h9.2 rfl)
     have hP:=hJ.2;have e9:(bif l_.getD 5 false then D2 else D)=D:=by rw [show l_.getD 5 false=false from hlf];rfl
     simp only [e9] at hP;refine Qq 31 _ _ rfl #[P0 b,Qd (Ar.Qf J),.int .i64 n,Qd (Le.Le.C ⟨e,be,v.nu⟩)] (by simp [e0,e1,e2,e3]) (cg31 _ _) ((Qa PU w2 hP.dv).mono ?_);rintro e w3 ⟨rfl,hk3,hR3⟩;exact⟨_,rfl,_,rfl,Qe rfl,Le.QJ (by omega) ⟨hJ.1.trans (hk3.mono (by simp)),hP.devA hk3 hR3⟩⟩
    | 6,ho=>
     obtain rfl:=Oj9 ho;have e0:=hout 1 (by kernel_rfl);replace e0:a'.eval (.tmp 1)=_:=e0.trans rfl;exact wp_move (.tmp 1) rfl _ e0 ⟨_,rfl,Qe rfl,Le.Qj [5,11] SB.loc (by omega) (by decide) hJ⟩
    | 7,ho=>
     obtain rfl:=Oj9 ho;have e0:=hout 6 (by kernel_rfl);replace e0:a'.eval (.tmp 6)=_:=e0.trans rfl;exact Qw Zv (.tmp 6) rfl b1 0 e0 (Ar.Qf J) rfl (((Qa M).at 0 _ rfl).kept hJ.1 ((Qa M).ne (b1,23,Ar.Qf J) (by simp))).range ⟨_,rfl,Qe rfl,Le.Qj [5,11] SB.loc (by omega) (by decide) hJ⟩
    | 8,ho=>
     obtain rfl:=Oj9 ho;have e0:=hout 7 (by kernel_rfl);replace e0:a'.eval (.tmp 7)=_:=e0.trans rfl;exact o_fldS1 (.tmp 7) rfl b2 e0 ⟨_,rfl,Qe rfl,Le.Qj [5,11] SB.loc (by omega) (by decide) hJ⟩
    | 9,ho=>
     obtain rfl:=Oj9 ho;have e0:a'.eval (.tmp 178)= .pointer (some ⟨b2,1,none⟩):=by have h9:=hin 8 178 (by kernel_rfl) (by kernel_rfl);exact h9.1.trans (Qc _ h9.2 rfl)
     exact Ar.Zx (.tmp 178) rfl _ _ e0 (Qb (((Qa M).at 1 _ rfl).kept hJ.1 ((Qa M).ne (b2,38,SC) (by simp))) 1 _ (Qa Y1)) ⟨_,rfl,Qe rfl,Le.Qj [5,11] SB.loc (by omega) (by decide) hJ⟩
    | 10,ho=>
     obtain rfl:=Oj9 ho;have e0:=hout 29 (by kernel_rfl);replace e0:a'.eval (.tmp 29)=_:=e0.trans rfl;exact Qw Le.QC (.tmp 29) rfl b6 0 e0 (Le.Le.C ⟨e,be,v.nu⟩) rfl (((Qa M).at 3 _ rfl).kept hJ.1 ((Qa M).ne (b6,73,Le.Le.C ⟨e,be,v.nu⟩) (by simp))).range ⟨_,rfl,Qe rfl,Le.Qj [5,11] SB.loc (by omega) (by decide) hJ⟩
    | 11,ho=>
     obtain rfl:=Oj9 ho;have e0:a'.eval (.tmp 176)=P0 r:=by have h9:=hin 6 176 (by kernel_rfl) (by kernel_rfl);exact h9.1.trans (Qc _ h9.2 rfl)
     have e1:a'.eval (.tmp 177)=Qd (Ar.Qf J):=by have h9:=hin 7 177 (by kernel_rfl) (by kernel_rfl);exact h9.1.trans (Qc _ h9.2 rfl)
     have e2:a'.eval (.tmp 179)= .int .i64 n:=by have h9:=hin 9 179 (by kernel_rfl) (by kernel_rfl);exact h9.1.trans (Qc _ h9.2 rfl)
     have e3:a'.eval (.tmp 180)=Qd (Le.Le.C ⟨e,be,v.nu⟩):=by have h9:=hin 10 180 (by kernel_rfl) (by kernel_rfl);exact h9.1.trans (Qc _ h9.2 rfl)
     have hP:=hJ.2;have e9:(bif l_.getD 11 false then D2 else D)=D:=by rw [show l_.getD 11 false=false from hlf];rfl
     simp only [e9] at hP;refine Qq 40 _ _ rfl #[P0 r,Qd (Ar.Qf J),.int .i64 n,Qd (Le.Le.C ⟨e,be,v.nu⟩)] (by simp [e0,e1,e2,e3]) (cg40 _ _) ((Qa PR w2 hP.rv).mono ?_);rintro e w3 ⟨rfl,hR3,hk3⟩;exact⟨_,rfl,_,rfl,Qe rfl,Le.QJ (by omega) ⟨hJ.1.trans (hk3.mono (by simp)),hP.devB hk3 hR3⟩⟩
    | 12,ho=>
     obtain rfl:=Oj9 ho;have e0:a'.eval (.tmp 175)= .int .i64 se:=by have h9:=hin 5 175 (by kernel_rfl) (by kernel_rfl);exact h9.1.trans (Qc _ h9.2 rfl)
     have e1:a'.eval (.tmp 181)= .int .i64 se:=by have h9:=hin 11 181 (by kernel_rfl) (by kernel_rfl);exact h9.1.trans (Qc _ h9.2 rfl)
     exact o_eql33 (.tmp 175) (.tmp 181) rfl _ _ true (by simp) e0 e1 ⟨_,rfl,Qe rfl,Le.Qj [5,11] SB.loc (by omega) (by decide) hJ⟩
    | 13,ho=>
     obtain rfl:=Oj9 ho;have e0:a'.eval (.tmp 182)= .bool true:=by have h9:=hin 12 182 (by kernel_rfl) (by kernel_rfl);exact h9.1.trans (Qc _ h9.2 rfl)
     exact QI (.tmp 182) rfl _ e0 ⟨_,rfl,Qe rfl,Le.Qj [5,11] SB.loc (by omega) (by decide) hJ⟩
  intro l_ vs9 V9 hl hJ htold;have t0:vs9 0=P0 b:=Qc _ (htold 0 (by decide)) rfl;have t1:vs9 1=Qd (Ar.Qf J):=Qc _ (htold 1 (by decide)) rfl;have t2:vs9 2= .pointer (some ⟨b2,1,none⟩):=Qc _ (htold 2 (by decide)) rfl;have t3:vs9 3= .int .i64 n:=Qc _ (htold 3 (by decide)) rfl;have t4:vs9 4=Qd (Le.Le.C ⟨e,be,v.nu⟩):=Qc _ (htold 4 (by decide)) rfl;have t5:vs9 5= .int .i64 se:=Qc _ (htold 5 (by decide)) rfl;have t6:vs9 6=P0 r:=Qc _ (htold 6 (by decide)) rfl;have t7:vs9 7=Qd (Ar.Qf J):=Qc _ (htold 7 (by decide)) rfl;have t8:vs9 8= .pointer (some ⟨b2,1,none⟩):=Qc _ (htold 8 (by decide)) rfl;have t9:vs9 9= .int .i64 n:=Qc _ (htold 9 (by decide)) rfl;have t10:vs9 10=Qd (Le.Le.C ⟨e,be,v.nu⟩):=Qc _ (htold 10 (by decide)) rfl;have t11:vs9 11= .int .i64 se:=Qc _ (htold 11 (by decide)) rfl;have t12:vs9 12= .bool true:=Qc _ (htold 12 (by decide)) rfl;have t13:vs9 13= .bool true:=Qc _ (htold 13 (by decide)) rfl;rw [show (List.range 14).map vs9= [vs9 0,vs9 1,vs9 2,vs9 3,vs9 4,vs9 5,vs9 6,vs9 7,vs9 8,vs9 9,vs9 10,vs9 11,vs9 12,vs9 13] from rfl];simp only [t0,t1,t2,t3,t4,t5,t6,t7,t8,t9,t10,t11,t12,t13,Qz,Act.put,List.setIfInBounds_toArray,List.set_cons_succ,List.set_cons_zero];clear t0 t1 t2 t3 t4 t5 t6 t7 t8 t9 t10 t11 t12 t13 htold;have hP:=hJ.2;have hK:=(Qa M).kept.trans hJ.1;simp only [hl 5 (by decide),hl 11 (by decide),cond_true] at hP;clear hJ hl;go_wp2_with fail
  go_ret
  exact⟨rfl,hP,hK⟩
end Go.Proofs.YtcfflbafclmheaaGreatDoor
