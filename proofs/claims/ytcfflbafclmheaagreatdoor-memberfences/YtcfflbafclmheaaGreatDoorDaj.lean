/-
  Texts of the walks of member, shortened.
-/
import Derived.Test.YtcfflbafclmheaaGreatDoorDah
set_option maxRecDepth 100000
set_option maxHeartbeats 100000000
set_option linter.unusedSimpArgs false
namespace Go.Proofs.YtcfflbafclmheaaGreatDoor.Vi
open Go.RowKit
def nextV (v:Vw) (f n:Int) (m:Bool×Int):Vw×Int:=if v.nu=4611686018427387904 then (zv,5) else (⟨v.nu+1,false,f,v.ms.set n.toNat m⟩,0)
def joinV (v:Vw) (n e:Int):Vw×Int:=if (v.may&&(isNo n&&isEp e))=false then (zv,2) else if e≤(v.mem n).2 then (zv,7) else nextV v n n (true,e)
def outV (v:Vw) (f n:Int):Vw×Int:=if (v.may&&(isNo f&&(isNo n&&decide (f≠n))))=false then (zv,2) else if (v.isIn f&&v.isIn n)=false then (zv,6) else nextV v f n (false,0)
def openV (v:Vw):Vw×Int:=if (v.may&&decide (v≠fv))=false then (zv,2) else if v.op then (zv,7) else (⟨v.nu,true,v.fd,v.ms⟩,0)
abbrev two (p:Vw×Int):Value:= .tuple #[Qd (vwC p.1),.int .i64 p.2]
theorem vw_lt {v:Vw} {k:Nat} (h:v.ms.length=8) (hk:k<19):k<(vwC v).length:=by rw [Qk h];exact hk
theorem _root_.Go.Proofs.YtcfflbafclmheaaGreatDoor.Blk.setMem {w:World} {b:Nat} {v:Vw} (h:Blk w b 29 (vwC v)) (n:Nat) (hn:n<v.ms.length) (m:Bool×Int):Blk (w.setCells b (3+n*2) (QD m)) b 29 (vwC ⟨v.nu,v.op,v.fd,v.ms.set n m⟩):=by
 have he:v.ms=v.ms.take n++ [v.ms[n]]++v.ms.drop (n+1):=by simp
 have hs:v.ms.set n m=v.ms.take n++ [m]++v.ms.drop (n+1):=by rw [List.set_eq_take_append_cons_drop,if_pos hn];simp
 have hc:∀x:Bool×Int,vwC ⟨v.nu,v.op,v.fd,v.ms.take n++ [x]++v.ms.drop (n+1)⟩=(.int .i64 v.nu:: .bool v.op:: .int .i64 v.fd::QP (v.ms.take n))++QD x++QP (v.ms.drop (n+1)):=by
  intro x;simp only [vwC];rw [memsC_app,memsC_app];simp [QP]
 rw [hs,hc];have h':Blk w b 29 (vwC ⟨v.nu,v.op,v.fd,v.ms.take n++ [v.ms[n]]++v.ms.drop (n+1)⟩):=by rw [← he];exact h
 rw [hc] at h';exact h'.part (by simp [Zu];omega) rfl
section
variable {ops:Array Oper} {rest:List Oper} {op:Oper} {a:Act} {w w0:World} {Q:Exit→Act→World→Prop} {bs:List (Nat×Nat×List Value)}
theorem wpStoreMem (hgd:op.guard=none) (x y:Operand) (ho:op.op= .store 26 x y) (hd:op.dst=none) (b i n:Nat) (v:Vw) (m:Bool×Int) (hx:a.eval x= .pointer (some ⟨b,3+n*2,none⟩)) (hy:a.eval y=Qd (QD m)) (hM:Mm w0 w bs) (hi:bs[i]?=some (b,29,vwC v)) (hn:n<8) (hv:v.ms.length=8)
  (h:∀W,Mm w0 W (bs.set i (b,29,vwC ⟨v.nu,v.op,v.fd,v.ms.set n m⟩))→wpList Tryz.prog ops Q rest a W):wpList Tryz.prog ops Q (op::rest) a w:=by
 have hB:=hM.at i _ hi;refine wpStoreA QC hgd x y ho b (3+n*2) (QD m) hx hy rfl (Ze _) (hB.there (by simp [Qk hv];omega)) ?_;rw [hd];exact h _ (hM.mut i hi ((Kept.refl _ _).setCells _ _ (by simp)) (hB.setMem n (by omega) m))
end
theorem res38 (w:World) (z:Nat) (vs:List Value) (e:Int) (tmps:Array Value) (h4:tmps[8]?.getD undef=P0 z) (h5:tmps[9]?.getD undef= .int .i64 e) (hl:vs.length=19) (hb:Blk w z 29 vs):(results Tryz.f139 tmps).run Tryz.prog w= .ok (.tuple #[Qd vs,.int .i64 e]) w:=by
 have:=Zq Qn hl hb;simp [results,Tryz.results139,h4,h5,this,asAddr]
theorem res16 (w:World) (z:Nat) (vs:List Value) (e:Int) (tmps:Array Value) (h4:tmps[6]?.getD undef=P0 z) (h5:tmps[7]?.getD undef= .int .i64 e) (hl:vs.length=19) (hb:Blk w z 29 vs):(results Tryz.f77 tmps).run Tryz.prog w= .ok (.tuple #[Qd vs,.int .i64 e]) w:=by
 have:=Zq Qn hl hb;simp [results,Tryz.results77,h4,h5,this,asAddr]
theorem res18 (w:World) (z:Nat) (vs:List Value) (e:Int) (tmps:Array Value) (h4:tmps[6]?.getD undef=P0 z) (h5:tmps[7]?.getD undef= .int .i64 e) (hl:vs.length=19) (hb:Blk w z 29 vs):(results Tryz.f84 tmps).run Tryz.prog w= .ok (.tuple #[Qd vs,.int .i64 e]) w:=by
 have:=Zq Qn hl hb;simp [results,Tryz.results84,h4,h5,this,asAddr]
theorem res20 (w:World) (z:Nat) (vs:List Value) (e:Int) (tmps:Array Value) (h4:tmps[2]?.getD undef=P0 z) (h5:tmps[3]?.getD undef= .int .i64 e) (hl:vs.length=19) (hb:Blk w z 29 vs):(results Tryz.f92 tmps).run Tryz.prog w= .ok (.tuple #[Qd vs,.int .i64 e]) w:=by
 have:=Zq Qn hl hb;simp [results,Tryz.results92,h4,h5,this,asAddr]
theorem next38 (v:Vw) (f n:Int) (m:Bool×Int) (w:World) (hF:First w) (hok:v.Ok) (hnu:0≤v.nu∧v.nu≤4611686018427387904) (hn:isNo n=true):Calls Tryz.prog 139 #[Qd (vwC v),.int .i64 f,.int .i64 n,Qd (QD m)] w fun e w'=>e= .returned (two (nextV v f n m))∧Kept [] w w':=by
 have hv:=hok.len;have hn':0≤n∧n<8:=by simpa [isNo] using hn
 obtain⟨h0,h8⟩:=hn';have hn8:n.toNat<8:=by omega
 unfold nextV;by_cases hb:v.nu=4611686018427387904
 · rw [if_pos hb];go_enter Tryz.func139,Tryz.ntmps139
   have M:Hid (Mm w w []):=hide (Mm.init hF);go_wp2_with (first |(refine Qp rfl (.tmp 0) rfl (vwC v) rfl ?_;intro W1 b1 e1 B1 K1;replace M:=hide ((Qa M).new e1 B1 K1);clear e1 B1 K1;refine Stp.go ?_))
   constructor
   go_wp2_with (first |(refine Qp rfl (.tmp 3) rfl (QD m) rfl ?_;intro W2 b2 e2 B2 K2;replace M:=hide ((Qa M).new e2 B2 K2);clear e2 B2 K2;refine Stp.go ?_))
   constructor
   go_wp2_with (first |(refine Qv (vwC zv) QE 8 rfl rfl rfl ?_;intro W3 b3 e3 B3 K3;replace M:=hide ((Qa M).new e3 B3 K3);clear e3 B3 K3;have c0:=Qb ((Qa M).at 0 _ rfl) 0 _ rfl;refine Stp.go ?_))
   constructor
   go_wp2_with (first |(refine Qh Qn rfl (.tmp 8) (.tmp 13) rfl rfl b3 2 (vwC zv) rfl rfl rfl (Ql _) (Qa M) rfl rfl ?_;intro W4 N4;replace M:Hid (Mm w W4 [(b1,29,vwC v),(b2,26,QD m),(b3,29,vwC zv)]):=hide N4;clear N4;refine Stp.go ?_))
   constructor
   go_wp2_with fail
   refine bodyPost_ret (res38 _ b3 (vwC zv) 5 _ rfl rfl rfl ((Qa M).at 2 _ rfl)) rfl ?_;exact⟨rfl,(Qa M).kept⟩
 · rw [if_neg hb];obtain⟨hn0,hn1⟩:=hnu;go_enter Tryz.func139,Tryz.ntmps139
   have M:Hid (Mm w w []):=hide (Mm.init hF);go_wp2_with (first |(refine Qp rfl (.tmp 0) rfl (vwC v) rfl ?_;intro W1 b1 e1 B1 K1;replace M:=hide ((Qa M).new e1 B1 K1);clear e1 B1 K1;refine Stp.go ?_))
   constructor
   go_wp2_with (first |(refine Qp rfl (.tmp 3) rfl (QD m) rfl ?_;intro W2 b2 e2 B2 K2;replace M:=hide ((Qa M).new e2 B2 K2);clear e2 B2 K2;refine Stp.go ?_))
   constructor
   go_wp2_with (first |(refine Qv (vwC zv) QE 8 rfl rfl rfl ?_;intro W3 b3 e3 B3 K3;replace M:=hide ((Qa M).new e3 B3 K3);clear e3 B3 K3;have c0:=Qb ((Qa M).at 0 _ rfl) 0 _ rfl;refine Stp.go ?_))
   constructor
   go_wp2_with (first |(refine Qo size2 rfl (.tmp 17) (.tmp 16) rfl rfl b1 0 0 (.int .i64 (v.nu+1)) ⟨rfl,rfl⟩ rfl rfl (Qa M) rfl (vw_lt hv (by decide)) ?_;intro W4 N4;replace M:Hid (Mm w W4 [(b1,29,vwC ⟨v.nu+1,v.op,v.fd,v.ms⟩),(b2,26,QD m),(b3,29,vwC zv)]):=hide N4;clear N4;clear c0;refine Stp.go ?_))
   constructor
   go_wp2_with (first |(refine Qo size4 rfl (.tmp 18) (.const (.bool false)) rfl rfl b1 1 0 (.bool false) ⟨rfl,rfl⟩ rfl rfl (Qa M) rfl (vw_lt hv (by decide)) ?_;intro W5 N5;replace M:Hid (Mm w W5 [(b1,29,vwC ⟨v.nu+1,false,v.fd,v.ms⟩),(b2,26,QD m),(b3,29,vwC zv)]):=hide N5;clear N5;refine Stp.go ?_))
   constructor
   go_wp2_with (first |(refine Qo size3 rfl (.tmp 20) (.tmp 19) rfl rfl b1 2 0 (.int .i64 f) ⟨rfl,rfl⟩ rfl rfl (Qa M) rfl (vw_lt hv (by decide)) ?_;intro W6 N6;replace M:Hid (Mm w W6 [(b1,29,vwC ⟨v.nu+1,false,f,v.ms⟩),(b2,26,QD m),(b3,29,vwC zv)]):=hide N6;clear N6;refine Stp.go ?_))
   constructor
   go_wp2_with (first |(refine Qg QC rfl (.tmp 7) rfl b2 0 rfl (QD m) rfl ((Qa M).at 1 _ rfl).range ?_;refine Stp.go ?_))
   constructor
   go_wp2_with (first |(refine wpStoreMem rfl (.tmp 24) (.tmp 22) rfl rfl b1 0 n.toNat ⟨v.nu+1,false,f,v.ms⟩ m rfl rfl (Qa M) rfl hn8 hv ?_;intro W7 N7;replace M:Hid (Mm w W7 [(b1,29,vwC ⟨v.nu+1,false,f,v.ms.set n.toNat m⟩),(b2,26,QD m),(b3,29,vwC zv)]):=hide N7;clear N7;refine Stp.go ?_))
   constructor
   go_wp2_with (first |(refine Qg Qn rfl (.tmp 4) rfl b1 0 rfl (vwC ⟨v.nu+1,false,f,v.ms.set n.toNat m⟩) (Qk (by simp [hv])) ((Qa M).at 0 _ rfl).range ?_;refine Stp.go ?_))
   constructor
   go_wp2_with (first |(refine Qh Qn rfl (.tmp 8) (.tmp 25) rfl rfl b3 2 (vwC ⟨v.nu+1,false,f,v.ms.set n.toNat m⟩) rfl rfl (Qk (by simp [hv])) (Ql _) (Qa M) rfl rfl ?_;intro W8 N8;replace M:Hid (Mm w W8 [(b1,29,vwC ⟨v.nu+1,false,f,v.ms.set n.toNat m⟩),(b2,26,QD m),(b3,29,vwC ⟨v.nu+1,false,f,v.ms.set n.toNat m⟩)]):=hide N8;clear N8;refine Stp.go ?_))
   constructor
   go_wp2_with fail
   refine bodyPost_ret (res38 _ b3 (vwC ⟨v.nu+1,false,f,v.ms.set n.toNat m⟩) 0 _ rfl rfl (Qk (by simp [hv])) ((Qa M).at 2 _ rfl)) rfl ?_;exact⟨rfl,(Qa M).kept⟩
set_option linter.unusedVariables false in
theorem join_a_F:(∀(v:Vw) (n e:Int) (w:World) (hF:First w) (hok:v.Ok) (hm:v.may=false),Calls Tryz.prog 77 #[Qd (vwC v),.int .i64 n,.int .i64 e] w fun x w'=>x= .returned (two (zv,2))∧Kept [] w w')∧(∀(v:Vw) (n e:Int) (w:World) (hF:First w) (hok:v.Ok) (hm:v.may=true) (hn:isNo n=false),Calls Tryz.prog 77 #[Qd (vwC v),.int .i64 n,.int .i64 e] w fun x w'=>x= .returned (two (zv,2))∧Kept [] w w')∧(∀(v:Vw) (n e:Int) (w:World) (hF:First w) (hok:v.Ok) (hm:v.may=true) (hn:isNo n=true) (he:isEp e=false),Calls Tryz.prog 77 #[Qd (vwC v),.int .i64 n,.int .i64 e] w fun x w'=>x= .returned (two (zv,2))∧Kept [] w w')∧(∀(v:Vw) (n e:Int) (w:World) (hF:First w) (hok:v.Ok) (hm:v.may=true) (hn:isNo n=true) (he:isEp e=true) (hg:e≤(v.mem n).2),Calls Tryz.prog 77 #[Qd (vwC v),.int .i64 n,.int .i64 e] w fun x w'=>x= .returned (two (zv,7))∧Kept [] w w'):=by
 refine⟨fun v n e w hF hok hm=> ?_,fun v n e w hF hok hm hn=> ?_,fun v n e w hF hok hm hn he=> ?_,fun v n e w hF hok hm hn he hg=> ?_⟩;have P12:∀W,First W→Hid (Calls Tryz.prog 136 #[Qd (vwC v)] W fun e w'=>e= .returned (.bool false)∧Kept [] W w'):=fun W hW=>hide (by have:=may12 v W hW hok.len;rw [hm] at this;exact this)
 rotate_left
 have P12:∀W,First W→Hid (Calls Tryz.prog 136 #[Qd (vwC v)] W fun e w'=>e= .returned (.bool true)∧Kept [] W w'):=fun W hW=>hide (by have:=may12 v W hW hok.len;rw [hm] at this;exact this);have P37:∀W,Hid (Calls Tryz.prog 137 #[.int .i64 n] W fun e w'=>e= .returned (.bool false)∧w'=W):=fun W=>hide (by have:=Zo n W;rw [hn] at this;exact this)
 rotate_left
 have P12:∀W,First W→Hid (Calls Tryz.prog 136 #[Qd (vwC v)] W fun e w'=>e= .returned (.bool true)∧Kept [] W w'):=fun W hW=>hide (by have:=may12 v W hW hok.len;rw [hm] at this;exact this);have P37:∀W,Hid (Calls Tryz.prog 137 #[.int .i64 n] W fun e w'=>e= .returned (.bool true)∧w'=W):=fun W=>hide (by have:=Zo n W;rw [hn] at this;exact this);have P36:∀W,Hid (Calls Tryz.prog 138 #[.int .i64 e] W fun e w'=>e= .returned (.bool false)∧w'=W):=fun W=>hide (by have:=isEpoch36 e W;rw [he] at this;exact this)
 rotate_left
 have P12:∀W,First W→Hid (Calls Tryz.prog 136 #[Qd (vwC v)] W fun e w'=>e= .returned (.bool true)∧Kept [] W w'):=fun W hW=>hide (by have:=may12 v W hW hok.len;rw [hm] at this;exact this);have P37:∀W,Hid (Calls Tryz.prog 137 #[.int .i64 n] W fun e w'=>e= .returned (.bool true)∧w'=W):=fun W=>hide (by have:=Zo n W;rw [hn] at this;exact this);have P36:∀W,Hid (Calls Tryz.prog 138 #[.int .i64 e] W fun e w'=>e= .returned (.bool true)∧w'=W):=fun W=>hide (by have:=isEpoch36 e W;rw [he] at this;exact this);have hn9:0≤n∧n<8:=by simpa [isNo] using hn
 obtain⟨n0,n8⟩:=hn9;have hdg:decide (e≤(v.mem n).2)=true:=by simpa using hg
 rotate_left
 all_goals
   go_enter Tryz.func77,Tryz.ntmps77
   have M:Hid (Mm w w []):=hide (Mm.init hF);go_wp2_with (first |(refine Qp rfl (.tmp 0) rfl (vwC v) rfl ?_;intro W1 b1 e1 B1 K1;replace M:=hide ((Qa M).new e1 B1 K1);clear e1 B1 K1;refine Stp.go ?_))
   constructor
   go_wp2_with (first |(refine Qv (vwC zv) QE 6 rfl rfl rfl ?_;intro W2 b2 e2 B2 K2;replace M:=hide ((Qa M).new e2 B2 K2);clear e2 B2 K2;refine Stp.go ?_))
   constructor
   go_wp2_with (first |(refine Qg Qn rfl (.tmp 3) rfl b1 0 rfl (vwC v) (Qk hok.len) ((Qa M).at 0 _ rfl).range ?_;refine Stp.go ?_))
   constructor
   go_wp2_with (first |(go_at_call 136;refine(Qa (P12 _ (Qa M).first)).mono ?_;rintro e W3 ⟨rfl,K3⟩;replace M:=hide ((Qa M).step K3);clear K3;refine Stp.go ?_))
   constructor
 · go_wp2_with (first |(refine Qh Qn rfl (.tmp 6) (.tmp 22) rfl rfl b2 1 (vwC zv) rfl rfl rfl (Ql _) (Qa M) rfl rfl ?_;intro W4 N4;replace M:Hid (Mm w W4 [(b1,29,vwC v),(b2,29,vwC zv)]):=hide N4;clear N4;refine Stp.go ?_))
   constructor
   go_wp2_with fail
   refine bodyPost_ret (res16 _ b2 (vwC zv) 2 _ rfl rfl rfl ((Qa M).at 1 _ rfl)) rfl ?_;exact⟨rfl,(Qa M).kept⟩
 all_goals
   go_wp2_with (first |(go_at_call 137;refine(Qa (P37 _)).mono ?_;rintro e W4 ⟨rfl,rfl⟩;refine Stp.go ?_))
   constructor
 · go_wp2_with (first |(refine Qh Qn rfl (.tmp 6) (.tmp 22) rfl rfl b2 1 (vwC zv) rfl rfl rfl (Ql _) (Qa M) rfl rfl ?_;intro W5 N5;replace M:Hid (Mm w W5 [(b1,29,vwC v),(b2,29,vwC zv)]):=hide N5;clear N5;refine Stp.go ?_))
   constructor
   go_wp2_with fail
   refine bodyPost_ret (res16 _ b2 (vwC zv) 2 _ rfl rfl rfl ((Qa M).at 1 _ rfl)) rfl ?_;exact⟨rfl,(Qa M).kept⟩
 · go_wp2_with (first |(go_at_call 138;refine(Qa (P36 _)).mono ?_;rintro e W5 ⟨rfl,rfl⟩;refine Stp.go ?_))
   constructor
   go_wp2_with (first |(refine Qh Qn rfl (.tmp 6) (.tmp 22) rfl rfl b2 1 (vwC zv) rfl rfl rfl (Ql _) (Qa M) rfl rfl ?_;intro W6 N6;replace M:Hid (Mm w W6 [(b1,29,vwC v),(b2,29,vwC zv)]):=hide N6;clear N6;refine Stp.go ?_))
   constructor
   go_wp2_with fail
   refine bodyPost_ret (res16 _ b2 (vwC zv) 2 _ rfl rfl rfl ((Qa M).at 1 _ rfl)) rfl ?_;exact⟨rfl,(Qa M).kept⟩
 go_wp2_with (first |(go_at_call 138;refine(Qa (P36 _)).mono ?_;rintro e W5 ⟨rfl,rfl⟩;obtain⟨m0,m1⟩:=Blk.mem ((Qa M).at 0 _ rfl) hok.len n0 n8;refine Stp.go ?_))
 constructor
 go_wp2_with (first |(refine Qh Qn rfl (.tmp 6) (.tmp 31) rfl rfl b2 1 (vwC zv) rfl rfl rfl (Ql _) (Qa M) rfl rfl ?_;intro W6 N6;replace M:Hid (Mm w W6 [(b1,29,vwC v),(b2,29,vwC zv)]):=hide N6;clear N6;refine Stp.go ?_))
 constructor
 go_wp2_with fail
 refine bodyPost_ret (res16 _ b2 (vwC zv) 7 _ rfl rfl rfl ((Qa M).at 1 _ rfl)) rfl ?_;exact⟨rfl,(Qa M).kept⟩
theorem next_len {v:Vw} {f n:Int} {m:Bool×Int} (h:v.ms.length=8):(nextV v f n m).1.ms.length=8:=by
 unfold nextV;split
 · rfl
 · simp [h]
theorem may_nu {v:Vw} (h:v.may=true):0≤v.nu∧v.nu≤4611686018427387904:=by
 unfold Vw.may at h;split at h
 · omega
 · simp at h;omega
theorem join_e (v:Vw) (n e:Int) (w:World) (hF:First w) (hok:v.Ok) (hm:v.may=true) (hn:isNo n=true) (he:isEp e=true) (hg:¬e≤(v.mem n).2):Calls Tryz.prog 77 #[Qd (vwC v),.int .i64 n,.int .i64 e] w fun x w'=>x= .returned (two (nextV v n n (true,e)))∧Kept [] w w':=by
 have P12:∀W,First W→Hid (Calls Tryz.prog 136 #[Qd (vwC v)] W fun e w'=>e= .returned (.bool true)∧Kept [] W w'):=fun W hW=>hide (by have:=may12 v W hW hok.len;rw [hm] at this;exact this);have P37:∀W,Hid (Calls Tryz.prog 137 #[.int .i64 n] W fun e w'=>e= .returned (.bool true)∧w'=W):=fun W=>hide (by have:=Zo n W;rw [hn] at this;exact this);have P36:∀W,Hid (Calls Tryz.prog 138 #[.int .i64 e] W fun e w'=>e= .returned (.bool true)∧w'=W):=fun W=>hide (by have:=isEpoch36 e W;rw [he] at this;exact this);have hn9:0≤n∧n<8:=by simpa [isNo] using hn
 obtain⟨n0,n8⟩:=hn9;have hdg:decide (e≤(v.mem n).2)=false:=by simpa using hg
 have hnu:=may_nu hm;go_enter Tryz.func77,Tryz.ntmps77
 have M:Hid (Mm w w []):=hide (Mm.init hF);go_wp2_with (first |(refine Qp rfl (.tmp 0) rfl (vwC v) rfl ?_;intro W1 b1 e1 B1 K1;replace M:=hide ((Qa M).new e1 B1 K1);clear e1 B1 K1;refine Stp.go ?_))
 constructor
 go_wp2_with (first |(refine Qv (vwC zv) QE 6 rfl rfl rfl ?_;intro W2 b2 e2 B2 K2;replace M:=hide ((Qa M).new e2 B2 K2);clear e2 B2 K2;refine Stp.go ?_))
 constructor
 go_wp2_with (first |(refine Qg Qn rfl (.tmp 3) rfl b1 0 rfl (vwC v) (Qk hok.len) ((Qa M).at 0 _ rfl).range ?_;refine Stp.go ?_))
 constructor
 go_wp2_with (first |(go_at_call 136;refine(Qa (P12 _ (Qa M).first)).mono ?_;rintro e W3 ⟨rfl,K3⟩;replace M:=hide ((Qa M).step K3);clear K3;refine Stp.go ?_))
 constructor
 go_wp2_with (first |(go_at_call 137;refine(Qa (P37 _)).mono ?_;rintro e W4 ⟨rfl,rfl⟩;refine Stp.go ?_))
 constructor
 go_wp2_with (first |(go_at_call 138;refine(Qa (P36 _)).mono ?_;rintro e W5 ⟨rfl,rfl⟩;obtain⟨m0,m1⟩:=Blk.mem ((Qa M).at 0 _ rfl) hok.len n0 n8;refine Stp.go ?_))
 constructor
 go_wp2_with (first |(refine Qg Qn rfl (.tmp 3) rfl b1 0 rfl (vwC v) (Qk hok.len) ((Qa M).at 0 _ rfl).range ?_;refine Stp.go ?_))
 constructor
 go_wp2_with (first |(go_at_call 139;refine(next38 v n n (true,e) _ (Qa M).first hok hnu hn).mono ?_;rintro e W6 ⟨rfl,K6⟩;replace M:=hide ((Qa M).step K6);clear K6;refine Stp.go ?_))
 constructor
 go_wp2_with (first |(refine Qh Qn rfl (.tmp 6) (.tmp 38) rfl rfl b2 1 (vwC (nextV v n n (true,e)).1) rfl rfl (Qk (next_len hok.len)) (Ql _) (Qa M) rfl rfl ?_;intro W7 N7;replace M:Hid (Mm w W7 [(b1,29,vwC v),(b2,29,vwC (nextV v n n (true,e)).1)]):=hide N7;clear N7;refine Stp.go ?_))
 constructor
 go_wp2_with fail
 refine bodyPost_ret (res16 _ b2 (vwC (nextV v n n (true,e)).1) (nextV v n n (true,e)).2 _ rfl rfl (Qk (next_len hok.len)) ((Qa M).at 1 _ rfl)) rfl ?_;exact⟨rfl,(Qa M).kept⟩
theorem join16 (v:Vw) (n e:Int) (w:World) (hF:First w) (hok:v.Ok):Calls Tryz.prog 77 #[Qd (vwC v),.int .i64 n,.int .i64 e] w fun x w'=>x= .returned (two (joinV v n e))∧Kept [] w w':=by
 unfold joinV;cases hm:v.may with
 | false=>exact join_a_F.1 v n e w hF hok hm
 | true=>
  cases hn:isNo n with
  | false=>exact join_a_F.2.1 v n e w hF hok hm hn
  | true=>
   cases he:isEp e with
   | false=>exact join_a_F.2.2.1 v n e w hF hok hm hn he
   | true=>
    simp only [Bool.and_self,Bool.true_eq_false,if_false];by_cases hg:e≤(v.mem n).2
    · rw [if_pos hg];exact join_a_F.2.2.2 v n e w hF hok hm hn he hg
    · rw [if_neg hg];exact join_e v n e w hF hok hm hn he hg
set_option linter.unusedVariables false in
theorem out_a_F:(∀(v:Vw) (f n:Int) (w:World) (hF:First w) (hok:v.Ok) (hm:v.may=false),Calls Tryz.prog 84 #[Qd (vwC v),.int .i64 f,.int .i64 n] w fun x w'=>x= .returned (two (zv,2))∧Kept [] w w')∧(∀(v:Vw) (f n:Int) (w:World) (hF:First w) (hok:v.Ok) (hm:v.may=true) (hf:isNo f=false),Calls Tryz.prog 84 #[Qd (vwC v),.int .i64 f,.int .i64 n] w fun x w'=>x= .returned (two (zv,2))∧Kept [] w w')∧(∀(v:Vw) (f n:Int) (w:World) (hF:First w) (hok:v.Ok) (hm:v.may=true) (hf:isNo f=true) (hn:isNo n=false),Calls Tryz.prog 84 #[Qd (vwC v),.int .i64 f,.int .i64 n] w fun x w'=>x= .returned (two (zv,2))∧Kept [] w w')∧(∀(v:Vw) (f n:Int) (w:World) (hF:First w) (hok:v.Ok) (hm:v.may=true) (hf:isNo f=true) (hn:isNo n=true) (hq:f=n),Calls Tryz.prog 84 #[Qd (vwC v),.int .i64 f,.int .i64 n] w fun x w'=>x= .returned (two (zv,2))∧Kept [] w w')∧(∀(v:Vw) (f n:Int) (w:World) (hF:First w) (hok:v.Ok) (hm:v.may=true) (hf:isNo f=true) (hn:isNo n=true) (hq:¬f=n) (hi:v.isIn f=false),Calls Tryz.prog 84 #[Qd (vwC v),.int .i64 f,.int .i64 n] w fun x w'=>x= .returned (two (zv,6))∧Kept [] w w')∧(∀(v:Vw) (f n:Int) (w:World) (hF:First w) (hok:v.Ok) (hm:v.may=true) (hf:isNo f=true) (hn:isNo n=true) (hq:¬f=n) (hi:v.isIn f=true) (hj:v.isIn n=false),Calls Tryz.prog 84 #[Qd (vwC v),.int .i64 f,.int .i64 n] w fun x w'=>x= .returned (two (zv,6))∧Kept [] w w')∧(∀(v:Vw) (f n:Int) (w:World) (hF:First w) (hok:v.Ok) (hm:v.may=true) (hf:isNo f=true) (hn:isNo n=true) (hq:¬f=n) (hi:v.isIn f=true) (hj:v.isIn n=true),Calls Tryz.prog 84 #[Qd (vwC v),.int .i64 f,.int .i64 n] w fun x w'=>x= .returned (two (nextV v f n (false,0)))∧Kept [] w w'):=by
 refine⟨fun v f n w hF hok hm=> ?_,fun v f n w hF hok hm hf=> ?_,fun v f n w hF hok hm hf hn=> ?_,fun v f n w hF hok hm hf hn hq=> ?_,fun v f n w hF hok hm hf hn hq hi=> ?_,fun v f n w hF hok hm hf hn hq hi hj=> ?_,fun v f n w hF hok hm hf hn hq hi hj=> ?_⟩;have P12:∀W,First W→Hid (Calls Tryz.prog 136 #[Qd (vwC v)] W fun e w'=>e= .returned (.bool false)∧Kept [] W w'):=fun W hW=>hide (by have:=may12 v W hW hok.len;rw [hm] at this;exact this)
 rotate_left
 have P12:∀W,First W→Hid (Calls Tryz.prog 136 #[Qd (vwC v)] W fun e w'=>e= .returned (.bool true)∧Kept [] W w'):=fun W hW=>hide (by have:=may12 v W hW hok.len;rw [hm] at this;exact this);have P37:∀W,Hid (Calls Tryz.prog 137 #[.int .i64 f] W fun e w'=>e= .returned (.bool false)∧w'=W):=fun W=>hide (by have:=Zo f W;rw [hf] at this;exact this)
 rotate_left
 have P12:∀W,First W→Hid (Calls Tryz.prog 136 #[Qd (vwC v)] W fun e w'=>e= .returned (.bool true)∧Kept [] W w'):=fun W hW=>hide (by have:=may12 v W hW hok.len;rw [hm] at this;exact this);have P37:∀W,Hid (Calls Tryz.prog 137 #[.int .i64 f] W fun e w'=>e= .returned (.bool true)∧w'=W):=fun W=>hide (by have:=Zo f W;rw [hf] at this;exact this);have Q37:∀W,Hid (Calls Tryz.prog 137 #[.int .i64 n] W fun e w'=>e= .returned (.bool false)∧w'=W):=fun W=>hide (by have:=Zo n W;rw [hn] at this;exact this)
 rotate_left
 have P12:∀W,First W→Hid (Calls Tryz.prog 136 #[Qd (vwC v)] W fun e w'=>e= .returned (.bool true)∧Kept [] W w'):=fun W hW=>hide (by have:=may12 v W hW hok.len;rw [hm] at this;exact this);have P37:∀W,Hid (Calls Tryz.prog 137 #[.int .i64 f] W fun e w'=>e= .returned (.bool true)∧w'=W):=fun W=>hide (by have:=Zo f W;rw [hf] at this;exact this);have Q37:∀W,Hid (Calls Tryz.prog 137 #[.int .i64 n] W fun e w'=>e= .returned (.bool true)∧w'=W):=fun W=>hide (by have:=Zo n W;rw [hn] at this;exact this);have hdq:(f == n)=true:=by simpa using hq
 clear hq
 rotate_left
 have P12:∀W,First W→Hid (Calls Tryz.prog 136 #[Qd (vwC v)] W fun e w'=>e= .returned (.bool true)∧Kept [] W w'):=fun W hW=>hide (by have:=may12 v W hW hok.len;rw [hm] at this;exact this);have P37:∀W,Hid (Calls Tryz.prog 137 #[.int .i64 f] W fun e w'=>e= .returned (.bool true)∧w'=W):=fun W=>hide (by have:=Zo f W;rw [hf] at this;exact this);have Q37:∀W,Hid (Calls Tryz.prog 137 #[.int .i64 n] W fun e w'=>e= .returned (.bool true)∧w'=W):=fun W=>hide (by have:=Zo n W;rw [hn] at this;exact this);have hdq:(f == n)=false:=by simpa using hq
 have P35:∀W,Hid (Calls Tryz.prog 141 #[Qd (vwC v),.int .i64 f] W fun e w'=>e= .returned (.bool false)∧Kept [] W w'):=fun W=>hide (by have:=isIn35 v f W hok.len;rw [hi] at this;exact this)
 rotate_left
 have P12:∀W,First W→Hid (Calls Tryz.prog 136 #[Qd (vwC v)] W fun e w'=>e= .returned (.bool true)∧Kept [] W w'):=fun W hW=>hide (by have:=may12 v W hW hok.len;rw [hm] at this;exact this);have P37:∀W,Hid (Calls Tryz.prog 137 #[.int .i64 f] W fun e w'=>e= .returned (.bool true)∧w'=W):=fun W=>hide (by have:=Zo f W;rw [hf] at this;exact this);have Q37:∀W,Hid (Calls Tryz.prog 137 #[.int .i64 n] W fun e w'=>e= .returned (.bool true)∧w'=W):=fun W=>hide (by have:=Zo n W;rw [hn] at this;exact this);have hdq:(f == n)=false:=by simpa using hq
 have P35:∀W,Hid (Calls Tryz.prog 141 #[Qd (vwC v),.int .i64 f] W fun e w'=>e= .returned (.bool true)∧Kept [] W w'):=fun W=>hide (by have:=isIn35 v f W hok.len;rw [hi] at this;exact this);have Q35:∀W,Hid (Calls Tryz.prog 141 #[Qd (vwC v),.int .i64 n] W fun e w'=>e= .returned (.bool false)∧Kept [] W w'):=fun W=>hide (by have:=isIn35 v n W hok.len;rw [hj] at this;exact this)
 rotate_left
 have P12:∀W,First W→Hid (Calls Tryz.prog 136 #[Qd (vwC v)] W fun e w'=>e= .returned (.bool true)∧Kept [] W w'):=fun W hW=>hide (by have:=may12 v W hW hok.len;rw [hm] at this;exact this);have P37:∀W,Hid (Calls Tryz.prog 137 #[.int .i64 f] W fun e w'=>e= .returned (.bool true)∧w'=W):=fun W=>hide (by have:=Zo f W;rw [hf] at this;exact this);have Q37:∀W,Hid (Calls Tryz.prog 137 #[.int .i64 n] W fun e w'=>e= .returned (.bool true)∧w'=W):=fun W=>hide (by have:=Zo n W;rw [hn] at this;exact this);have hdq:(f == n)=false:=by simpa using hq
 have P35:∀W,Hid (Calls Tryz.prog 141 #[Qd (vwC v),.int .i64 f] W fun e w'=>e= .returned (.bool true)∧Kept [] W w'):=fun W=>hide (by have:=isIn35 v f W hok.len;rw [hi] at this;exact this);have Q35:∀W,Hid (Calls Tryz.prog 141 #[Qd (vwC v),.int .i64 n] W fun e w'=>e= .returned (.bool true)∧Kept [] W w'):=fun W=>hide (by have:=isIn35 v n W hok.len;rw [hj] at this;exact this);have hnu:=may_nu hm
 rotate_left
 all_goals
   go_enter Tryz.func84,Tryz.ntmps84
   have M:Hid (Mm w w []):=hide (Mm.init hF);go_wp2_with (first |(refine Qp rfl (.tmp 0) rfl (vwC v) rfl ?_;intro W1 b1 e1 B1 K1;replace M:=hide ((Qa M).new e1 B1 K1);clear e1 B1 K1;refine Stp.go ?_))
   constructor
   go_wp2_with (first |(refine Qv (vwC zv) QE 6 rfl rfl rfl ?_;intro W2 b2 e2 B2 K2;replace M:=hide ((Qa M).new e2 B2 K2);clear e2 B2 K2;refine Stp.go ?_))
   constructor
   go_wp2_with (first |(refine Qg Qn rfl (.tmp 3) rfl b1 0 rfl (vwC v) (Qk hok.len) ((Qa M).at 0 _ rfl).range ?_;refine Stp.go ?_))
   constructor
   go_wp2_with (first |(go_at_call 136;refine(Qa (P12 _ (Qa M).first)).mono ?_;rintro e W3 ⟨rfl,K3⟩;replace M:=hide ((Qa M).step K3);clear K3;refine Stp.go ?_))
   constructor
 · go_wp2_with (first |(refine Qh Qn rfl (.tmp 6) (.tmp 27) rfl rfl b2 1 (vwC zv) rfl rfl rfl (Ql _) (Qa M) rfl rfl ?_;intro W4 N4;replace M:Hid (Mm w W4 [(b1,29,vwC v),(b2,29,vwC zv)]):=hide N4;clear N4;refine Stp.go ?_))
   constructor
   go_wp2_with fail
   refine bodyPost_ret (res18 _ b2 (vwC zv) 2 _ rfl rfl rfl ((Qa M).at 1 _ rfl)) rfl ?_;exact⟨rfl,(Qa M).kept⟩
 all_goals
   go_wp2_with (first |(go_at_call 137;refine(Qa (P37 _)).mono ?_;rintro e W4 ⟨rfl,rfl⟩;refine Stp.go ?_))
   constructor
 · go_wp2_with (first |(refine Qh Qn rfl (.tmp 6) (.tmp 27) rfl rfl b2 1 (vwC zv) rfl rfl rfl (Ql _) (Qa M) rfl rfl ?_;intro W5 N5;replace M:Hid (Mm w W5 [(b1,29,vwC v),(b2,29,vwC zv)]):=hide N5;clear N5;refine Stp.go ?_))
   constructor
   go_wp2_with fail
   refine bodyPost_ret (res18 _ b2 (vwC zv) 2 _ rfl rfl rfl ((Qa M).at 1 _ rfl)) rfl ?_;exact⟨rfl,(Qa M).kept⟩
 all_goals
   go_wp2_with (first |(go_at_call 137;refine(Qa (Q37 _)).mono ?_;rintro e W5 ⟨rfl,rfl⟩;refine Stp.go ?_))
   constructor
 · go_wp2_with (first |(refine Qh Qn rfl (.tmp 6) (.tmp 27) rfl rfl b2 1 (vwC zv) rfl rfl rfl (Ql _) (Qa M) rfl rfl ?_;intro W6 N6;replace M:Hid (Mm w W6 [(b1,29,vwC v),(b2,29,vwC zv)]):=hide N6;clear N6;refine Stp.go ?_))
   constructor
   go_wp2_with fail
   refine bodyPost_ret (res18 _ b2 (vwC zv) 2 _ rfl rfl rfl ((Qa M).at 1 _ rfl)) rfl ?_;exact⟨rfl,(Qa M).kept⟩
 · go_wp2_with (first |(refine Qh Qn rfl (.tmp 6) (.tmp 27) rfl rfl b2 1 (vwC zv) rfl rfl rfl (Ql _) (Qa M) rfl rfl ?_;intro W6 N6;replace M:Hid (Mm w W6 [(b1,29,vwC v),(b2,29,vwC zv)]):=hide N6;clear N6;refine Stp.go ?_))
   constructor
   go_wp2_with fail
   refine bodyPost_ret (res18 _ b2 (vwC zv) 2 _ rfl rfl rfl ((Qa M).at 1 _ rfl)) rfl ?_;exact⟨rfl,(Qa M).kept⟩
 all_goals
   go_wp2_with (first |(refine Qg Qn rfl (.tmp 3) rfl b1 0 rfl (vwC v) (Qk hok.len) ((Qa M).at 0 _ rfl).range ?_;refine Stp.go ?_))
   constructor
   go_wp2_with (first |(go_at_call 141;refine(Qa (P35 _)).mono ?_;rintro e W6 ⟨rfl,K6⟩;replace M:=hide ((Qa M).step K6);clear K6;refine Stp.go ?_))
   constructor
 · go_wp2_with (first |(refine Qh Qn rfl (.tmp 6) (.tmp 39) rfl rfl b2 1 (vwC zv) rfl rfl rfl (Ql _) (Qa M) rfl rfl ?_;intro W7 N7;replace M:Hid (Mm w W7 [(b1,29,vwC v),(b2,29,vwC zv)]):=hide N7;clear N7;refine Stp.go ?_))
   constructor
   go_wp2_with fail
   refine bodyPost_ret (res18 _ b2 (vwC zv) 6 _ rfl rfl rfl ((Qa M).at 1 _ rfl)) rfl ?_;exact⟨rfl,(Qa M).kept⟩
 all_goals
   go_wp2_with (first |(refine Zb Qn (.tmp 3) rfl rfl b1 0 rfl (vwC v) (Qk hok.len) ((Qa M).at 0 _ rfl).range ?_;refine Stp.go ?_))
   constructor
   go_wp2_with (first |(go_at_call 141;refine(Qa (Q35 _)).mono ?_;rintro e W7 ⟨rfl,K7⟩;replace M:=hide ((Qa M).step K7);clear K7;refine Stp.go ?_))
   constructor
 · go_wp2_with (first |(refine Qh Qn rfl (.tmp 6) (.tmp 39) rfl rfl b2 1 (vwC zv) rfl rfl rfl (Ql _) (Qa M) rfl rfl ?_;intro W8 N8;replace M:Hid (Mm w W8 [(b1,29,vwC v),(b2,29,vwC zv)]):=hide N8;clear N8;refine Stp.go ?_))
   constructor
   go_wp2_with fail
   refine bodyPost_ret (res18 _ b2 (vwC zv) 6 _ rfl rfl rfl ((Qa M).at 1 _ rfl)) rfl ?_;exact⟨rfl,(Qa M).kept⟩
 go_wp2_with (first |(refine Qg Qn rfl (.tmp 3) rfl b1 0 rfl (vwC v) (Qk hok.len) ((Qa M).at 0 _ rfl).range ?_;refine Stp.go ?_))
 constructor
 go_wp2_with (first |(go_at_call 139;refine(next38 v f n (false,0) _ (Qa M).first hok hnu hn).mono ?_;rintro e W8 ⟨rfl,K8⟩;replace M:=hide ((Qa M).step K8);clear K8;refine Stp.go ?_))
 constructor
 go_wp2_with (first |(refine Qh Qn rfl (.tmp 6) (.tmp 45) rfl rfl b2 1 (vwC (nextV v f n (false,0)).1) rfl rfl (Qk (next_len hok.len)) (Ql _) (Qa M) rfl rfl ?_;intro W9 N9;replace M:Hid (Mm w W9 [(b1,29,vwC v),(b2,29,vwC (nextV v f n (false,0)).1)]):=hide N9;clear N9;refine Stp.go ?_))
 constructor
 go_wp2_with fail
 refine bodyPost_ret (res18 _ b2 (vwC (nextV v f n (false,0)).1) (nextV v f n (false,0)).2 _ rfl rfl (Qk (next_len hok.len)) ((Qa M).at 1 _ rfl)) rfl ?_;exact⟨rfl,(Qa M).kept⟩
theorem out18 (v:Vw) (f n:Int) (w:World) (hF:First w) (hok:v.Ok):Calls Tryz.prog 84 #[Qd (vwC v),.int .i64 f,.int .i64 n] w fun x w'=>x= .returned (two (outV v f n))∧Kept [] w w':=by
 unfold outV;cases hm:v.may with
 | false=>exact out_a_F.1 v f n w hF hok hm
 | true=>
  cases hf:isNo f with
  | false=>exact out_a_F.2.1 v f n w hF hok hm hf
  | true=>
   cases hn:isNo n with
   | false=>exact out_a_F.2.2.1 v f n w hF hok hm hf hn
   | true=>
    by_cases hq:f=n
    · rw [if_pos (by simp [hq])];exact out_a_F.2.2.2.1 v f n w hF hok hm hf hn hq
    · rw [if_neg (by simp [hq])];cases hi:v.isIn f with
      | false=>exact out_a_F.2.2.2.2.1 v f n w hF hok hm hf hn hq hi
      | true=>
       cases hj:v.isIn n with
       | false=>exact out_a_F.2.2.2.2.2.1 v f n w hF hok hm hf hn hq hi hj
       | true=>exact out_a_F.2.2.2.2.2.2 v f n w hF hok hm hf hn hq hi hj
set_option linter.unusedVariables false in
theorem open_a_F:(∀(v:Vw) (w:World) (hF:First w) (hok:v.Ok) (hm:v.may=false),Calls Tryz.prog 92 #[Qd (vwC v)] w fun x w'=>x= .returned (two (zv,2))∧Kept [] w w')∧(∀(v:Vw) (w:World) (hF:First w) (hok:v.Ok) (hm:v.may=true) (hq:decide (v=fv)=true),Calls Tryz.prog 92 #[Qd (vwC v)] w fun x w'=>x= .returned (two (zv,2))∧Kept [] w w')∧(∀(v:Vw) (w:World) (hF:First w) (hok:v.Ok) (hm:v.may=true) (hq:decide (v=fv)=false) (ho:v.op=true),Calls Tryz.prog 92 #[Qd (vwC v)] w fun x w'=>x= .returned (two (zv,7))∧Kept [] w w')∧(∀(v:Vw) (w:World) (hF:First w) (hok:v.Ok) (hm:v.may=true) (hq:decide (v=fv)=false) (ho:v.op=false),Calls Tryz.prog 92 #[Qd (vwC v)] w fun x w'=>x= .returned (two (⟨v.nu,true,v.fd,v.ms⟩,0))∧Kept [] w w'):=by
 refine⟨fun v w hF hok hm=> ?_,fun v w hF hok hm hq=> ?_,fun v w hF hok hm hq ho=> ?_,fun v w hF hok hm hq ho=> ?_⟩;have P12:∀W,First W→Hid (Calls Tryz.prog 136 #[Qd (vwC v)] W fun e w'=>e= .returned (.bool false)∧Kept [] W w'):=fun W hW=>hide (by have:=may12 v W hW hok.len;rw [hm] at this;exact this)
 rotate_left
 have P12:∀W,First W→Hid (Calls Tryz.prog 136 #[Qd (vwC v)] W fun e w'=>e= .returned (.bool true)∧Kept [] W w'):=fun W hW=>hide (by have:=may12 v W hW hok.len;rw [hm] at this;exact this)
 rotate_left
 have P12:∀W,First W→Hid (Calls Tryz.prog 136 #[Qd (vwC v)] W fun e w'=>e= .returned (.bool true)∧Kept [] W w'):=fun W hW=>hide (by have:=may12 v W hW hok.len;rw [hm] at this;exact this)
 rotate_left
 have P12:∀W,First W→Hid (Calls Tryz.prog 136 #[Qd (vwC v)] W fun e w'=>e= .returned (.bool true)∧Kept [] W w'):=fun W hW=>hide (by have:=may12 v W hW hok.len;rw [hm] at this;exact this)
 rotate_left
 all_goals
   go_enter Tryz.func92,Tryz.ntmps92
   have M:Hid (Mm w w []):=hide (Mm.init hF);go_wp2_with (first |(refine Qp rfl (.tmp 0) rfl (vwC v) rfl ?_;intro W1 b1 e1 B1 K1;replace M:=hide ((Qa M).new e1 B1 K1);clear e1 B1 K1;refine Stp.go ?_))
   constructor
   go_wp2_with (first |(refine Qv (vwC zv) QE 2 rfl rfl rfl ?_;intro W2 b2 e2 B2 K2;replace M:=hide ((Qa M).new e2 B2 K2);clear e2 B2 K2;refine Stp.go ?_))
   constructor
   go_wp2_with (first |(refine Qg Qn rfl (.tmp 1) rfl b1 0 rfl (vwC v) (Qk hok.len) ((Qa M).at 0 _ rfl).range ?_;refine Stp.go ?_))
   constructor
   go_wp2_with (first |(go_at_call 136;refine(Qa (P12 _ (Qa M).first)).mono ?_;rintro e W3 ⟨rfl,K3⟩;replace M:=hide ((Qa M).step K3);clear K3;refine Stp.go ?_))
   constructor
 · go_wp2_with (first |(refine Qh Qn rfl (.tmp 2) (.tmp 13) rfl rfl b2 1 (vwC zv) rfl rfl rfl (Ql _) (Qa M) rfl rfl ?_;intro W4 N4;replace M:Hid (Mm w W4 [(b1,29,vwC v),(b2,29,vwC zv)]):=hide N4;clear N4;refine Stp.go ?_))
   constructor
   go_wp2_with fail
   refine bodyPost_ret (res20 _ b2 (vwC zv) 2 _ rfl rfl rfl ((Qa M).at 1 _ rfl)) rfl ?_;exact⟨rfl,(Qa M).kept⟩
 all_goals
   go_wp2_with (first |(refine Zb Qn (.tmp 1) rfl rfl b1 0 rfl (vwC v) (Qk hok.len) ((Qa M).at 0 _ rfl).range ?_;refine Stp.go ?_))
   constructor
   go_wp2_with (first |(refine Zb Qn (.global 0) rfl rfl 0 0 rfl (vwC fv) rfl (Qa M).first.at0 ?_;refine Stp.go ?_))
   constructor
 · go_wp2_with (first |(refine wpEqlG 29 29 guard26 (.tmp 9) (.tmp 10) rfl rfl (vwC v) (vwC fv) rfl rfl true ((equal26 _ v fv hok.len rfl).trans (by rw [hq])) ?_;have c1:=Qb ((Qa M).at 0 _ rfl) 1 _ rfl;refine Stp.go ?_))
   constructor
   go_wp2_with (first |(refine Qh Qn rfl (.tmp 2) (.tmp 13) rfl rfl b2 1 (vwC zv) rfl rfl rfl (Ql _) (Qa M) rfl rfl ?_;intro W4 N4;replace M:Hid (Mm w W4 [(b1,29,vwC v),(b2,29,vwC zv)]):=hide N4;clear N4;refine Stp.go ?_))
   constructor
   go_wp2_with fail
   refine bodyPost_ret (res20 _ b2 (vwC zv) 2 _ rfl rfl rfl ((Qa M).at 1 _ rfl)) rfl ?_;exact⟨rfl,(Qa M).kept⟩
 · go_wp2_with (first |(refine wpEqlG 29 29 guard26 (.tmp 9) (.tmp 10) rfl rfl (vwC v) (vwC fv) rfl rfl false ((equal26 _ v fv hok.len rfl).trans (by rw [hq])) ?_;have c1:W3.cell? ⟨b1,1,none⟩=some (.bool true):=(by rw [← ho];exact Qb ((Qa M).at 0 _ rfl) 1 _ rfl);refine Stp.go ?_))
   constructor
   go_wp2_with (first |(refine Qh Qn rfl (.tmp 2) (.tmp 17) rfl rfl b2 1 (vwC zv) rfl rfl rfl (Ql _) (Qa M) rfl rfl ?_;intro W4 N4;replace M:Hid (Mm w W4 [(b1,29,vwC v),(b2,29,vwC zv)]):=hide N4;clear N4;refine Stp.go ?_))
   constructor
   go_wp2_with fail
   refine bodyPost_ret (res20 _ b2 (vwC zv) 7 _ rfl rfl rfl ((Qa M).at 1 _ rfl)) rfl ?_;exact⟨rfl,(Qa M).kept⟩
 go_wp2_with (first |(refine wpEqlG 29 29 guard26 (.tmp 9) (.tmp 10) rfl rfl (vwC v) (vwC fv) rfl rfl false ((equal26 _ v fv hok.len rfl).trans (by rw [hq])) ?_;have c1:W3.cell? ⟨b1,1,none⟩=some (.bool false):=(by rw [← ho];exact Qb ((Qa M).at 0 _ rfl) 1 _ rfl);refine Stp.go ?_))
 constructor
 go_wp2_with (first |(refine Qo size4 rfl (.tmp 18) (.const (.bool true)) rfl rfl b1 1 0 (.bool true) ⟨rfl,rfl⟩ rfl rfl (Qa M) rfl (vw_lt hok.len (by decide)) ?_;intro W4 N4;replace M:Hid (Mm w W4 [(b1,29,vwC ⟨v.nu,true,v.fd,v.ms⟩),(b2,29,vwC zv)]):=hide N4;clear N4;refine Stp.go ?_))
 constructor
 go_wp2_with (first |(refine Qg Qn rfl (.tmp 1) rfl b1 0 rfl (vwC ⟨v.nu,true,v.fd,v.ms⟩) (Qk hok.len) ((Qa M).at 0 _ rfl).range ?_;refine Stp.go ?_))
 constructor
 go_wp2_with (first |(refine Qh Qn rfl (.tmp 2) (.tmp 19) rfl rfl b2 1 (vwC ⟨v.nu,true,v.fd,v.ms⟩) rfl rfl (Qk hok.len) (Ql _) (Qa M) rfl rfl ?_;intro W5 N5;replace M:Hid (Mm w W5 [(b1,29,vwC ⟨v.nu,true,v.fd,v.ms⟩),(b2,29,vwC ⟨v.nu,true,v.fd,v.ms⟩)]):=hide N5;clear N5;refine Stp.go ?_))
 constructor
 go_wp2_with fail
 refine bodyPost_ret (res20 _ b2 (vwC ⟨v.nu,true,v.fd,v.ms⟩) 0 _ rfl rfl (Qk hok.len) ((Qa M).at 1 _ rfl)) rfl ?_;exact⟨rfl,(Qa M).kept⟩
theorem opened20 (v:Vw) (w:World) (hF:First w) (hok:v.Ok):Calls Tryz.prog 92 #[Qd (vwC v)] w fun x w'=>x= .returned (two (openV v))∧Kept [] w w':=by
 unfold openV;cases hm:v.may with
 | false=>exact open_a_F.1 v w hF hok hm
 | true=>
  by_cases hq:v=fv
  · rw [if_pos (by simp [hq])];exact open_a_F.2.1 v w hF hok hm (by simpa using hq)
  · rw [if_neg (by simp [hq])];cases ho:v.op with
    | true=>exact open_a_F.2.2.1 v w hF hok hm (by simpa using hq) ho
    | false=>exact open_a_F.2.2.2 v w hF hok hm (by simpa using hq) ho
open Go.RowKit
theorem zl (n:Nat):(u8s (zs n)).length=n:=by simp [Qy,zs]
theorem res8 (w:World) (z:Nat) (vs:List Value) (e:Int) (tmps:Array Value) (h4:tmps[2]?.getD undef=P0 z) (h5:tmps[3]?.getD undef= .int .i64 e) (hl:vs.length=64) (hb:Blk w z 59 vs):(results Tryz.f148 tmps).run Tryz.prog w= .ok (.tuple #[Qd vs,.int .i64 e]) w:=by
 have:=Zq Zc hl hb;simp [results,Tryz.results148,h4,h5,this,asAddr]
theorem res9 (w:World) (z:Nat) (vs:List Value) (e:Int) (tmps:Array Value) (h4:tmps[2]?.getD undef=P0 z) (h5:tmps[3]?.getD undef= .int .i64 e) (hl:vs.length=19) (hb:Blk w z 29 vs):(results Tryz.f111 tmps).run Tryz.prog w= .ok (.tuple #[Qd vs,.int .i64 e]) w:=by
 have:=Zq Qn hl hb;simp [results,Tryz.results111,h4,h5,this,asAddr]
theorem res34 (w:World) (z:Nat) (vs:List Value) (tmps:Array Value) (h4:tmps[2]?.getD undef=P0 z) (hl:vs.length=19) (hb:Blk w z 29 vs):(results Tryz.f147 tmps).run Tryz.prog w= .ok (Qd vs) w:=by
 have:=Zq Qn hl hb;simp [results,Tryz.results147,h4,this,asAddr]
theorem put_a (v:Vw) (w:World) (hF:First w) (hv:v.ms.length=8) (hm:v.may=false):Calls Tryz.prog 148 #[Qd (vwC v)] w fun e w'=>e= .returned (.tuple #[Qd (u8s (zs 64)),.int .i64 2])∧Kept [] w w':=by
 have P12:∀W,First W→Hid (Calls Tryz.prog 136 #[Qd (vwC v)] W fun e w'=>e= .returned (.bool false)∧Kept [] W w'):=fun W hW=>hide (by have:=may12 v W hW hv;rw [hm] at this;exact this);go_enter Tryz.func148,Tryz.ntmps148
 have M:Hid (Mm w w []):=hide (Mm.init hF);go_wp2_with (first |(refine Qp rfl (.tmp 0) rfl (vwC v) rfl ?_;intro W1 b1 e1 B1 K1;replace M:=hide ((Qa M).new e1 B1 K1);clear e1 B1 K1;refine Stp.go ?_))
 constructor
 go_wp2_with (first |(refine Qv (u8s (zs 64)) ZI 2 rfl rfl rfl ?_;intro W2 b2 e2 B2 K2;replace M:=hide ((Qa M).new e2 B2 K2);clear e2 B2 K2;refine Stp.go ?_))
 constructor
 go_wp2_with (first |(refine Qv (u8s (zs 64)) ZI 4 rfl rfl rfl ?_;intro W3 b3 e3 B3 K3;replace M:=hide ((Qa M).new e3 B3 K3);clear e3 B3 K3;refine Stp.go ?_))
 constructor
 go_wp2_with (first |(refine Qg Qn rfl (.tmp 1) rfl b1 0 rfl (vwC v) (Qk hv) ((Qa M).at 0 _ rfl).range ?_;refine Stp.go ?_))
 constructor
 go_wp2_with (first |(go_at_call 136;refine(Qa (P12 _ (Qa M).first)).mono ?_;rintro e W4 ⟨rfl,K4⟩;replace M:=hide ((Qa M).step K4);clear K4;refine Stp.go ?_))
 constructor
 go_wp2_with (first |(refine Qg Zc rfl (.tmp 4) rfl b3 0 rfl (u8s (zs 64)) (zl 64) ((Qa M).at 2 _ rfl).range ?_;refine Stp.go ?_))
 constructor
 go_wp2_with (first |(refine Qh Zc rfl (.tmp 2) (.tmp 11) rfl rfl b2 1 (u8s (zs 64)) rfl rfl (zl 64) (QU _) (Qa M) rfl (zl 64) ?_;intro W5 N5;replace M:Hid (Mm w W5 [(b1,29,vwC v),(b2,59,u8s (zs 64)),(b3,59,u8s (zs 64))]):=hide N5;clear N5;refine Stp.go ?_))
 constructor
 go_wp2_with fail
 refine bodyPost_ret (res8 _ b2 (u8s (zs 64)) 2 _ rfl rfl (zl 64) ((Qa M).at 1 _ rfl)) rfl ?_;exact⟨rfl,(Qa M).kept⟩
theorem put_b (v:Vw) (w:World) (hF:First w) (hv:v.ms.length=8) (hm:v.may=true) (hq:decide (v=fv)=true):Calls Tryz.prog 148 #[Qd (vwC v)] w fun e w'=>e= .returned (.tuple #[Qd (u8s (zs 64)),.int .i64 0])∧Kept [] w w':=by
 have P12:∀W,First W→Hid (Calls Tryz.prog 136 #[Qd (vwC v)] W fun e w'=>e= .returned (.bool true)∧Kept [] W w'):=fun W hW=>hide (by have:=may12 v W hW hv;rw [hm] at this;exact this);go_enter Tryz.func148,Tryz.ntmps148
 have M:Hid (Mm w w []):=hide (Mm.init hF);go_wp2_with (first |(refine Qp rfl (.tmp 0) rfl (vwC v) rfl ?_;intro W1 b1 e1 B1 K1;replace M:=hide ((Qa M).new e1 B1 K1);clear e1 B1 K1;refine Stp.go ?_))
 constructor
 go_wp2_with (first |(refine Qv (u8s (zs 64)) ZI 2 rfl rfl rfl ?_;intro W2 b2 e2 B2 K2;replace M:=hide ((Qa M).new e2 B2 K2);clear e2 B2 K2;refine Stp.go ?_))
 constructor
 go_wp2_with (first |(refine Qv (u8s (zs 64)) ZI 4 rfl rfl rfl ?_;intro W3 b3 e3 B3 K3;replace M:=hide ((Qa M).new e3 B3 K3);clear e3 B3 K3;refine Stp.go ?_))
 constructor
 go_wp2_with (first |(refine Qg Qn rfl (.tmp 1) rfl b1 0 rfl (vwC v) (Qk hv) ((Qa M).at 0 _ rfl).range ?_;refine Stp.go ?_))
 constructor
 go_wp2_with (first |(go_at_call 136;refine(Qa (P12 _ (Qa M).first)).mono ?_;rintro e W4 ⟨rfl,K4⟩;replace M:=hide ((Qa M).step K4);clear K4;refine Stp.go ?_))
 constructor
 go_wp2_with (first |(refine Qg Qn rfl (.tmp 1) rfl b1 0 rfl (vwC v) (Qk hv) ((Qa M).at 0 _ rfl).range ?_;refine Stp.go ?_))
 constructor
 go_wp2_with (first |(refine Qg Qn rfl (.global 0) rfl 0 0 rfl (vwC fv) rfl (Qa M).first.at0 ?_;refine Stp.go ?_))
 constructor
 go_wp2_with (first |(refine wpEqlA 29 29 guard26 (.tmp 13) (.tmp 14) rfl rfl (vwC v) (vwC fv) rfl rfl true ((equal26 _ v fv hv rfl).trans (by rw [hq])) ?_;refine Stp.go ?_))
 constructor
 go_wp2_with (first |(refine Qg Zc rfl (.tmp 4) rfl b3 0 rfl (u8s (zs 64)) (zl 64) ((Qa M).at 2 _ rfl).range ?_;refine Stp.go ?_))
 constructor
 go_wp2_with (first |(refine Qh Zc rfl (.tmp 2) (.tmp 16) rfl rfl b2 1 (u8s (zs 64)) rfl rfl (zl 64) (QU _) (Qa M) rfl (zl 64) ?_;intro W5 N5;replace M:Hid (Mm w W5 [(b1,29,vwC v),(b2,59,u8s (zs 64)),(b3,59,u8s (zs 64))]):=hide N5;clear N5;refine Stp.go ?_))
 constructor
 go_wp2_with fail
 refine bodyPost_ret (res8 _ b2 (u8s (zs 64)) 0 _ rfl rfl (zl 64) ((Qa M).at 1 _ rfl)) rfl ?_;exact⟨rfl,(Qa M).kept⟩
theorem viewin_z (s:List Int) (w:World) (hF:First w) (hs:s.length=64) (hz:decide (s=zs 64)=true):Calls Tryz.prog 147 #[Qd (u8s s)] w fun e w'=>e= .returned (Qd (vwC fv))∧Kept [] w w':=by
 go_enter Tryz.func147,Tryz.ntmps147
 have M:Hid (Mm w w []):=hide (Mm.init hF);go_wp2_with (first |(refine Qp rfl (.tmp 0) rfl (u8s s) rfl ?_;intro W1 b1 e1 B1 K1;replace M:=hide ((Qa M).new e1 B1 K1);clear e1 B1 K1;refine Stp.go ?_))
 constructor
 go_wp2_with (first |(refine Qv (vwC zv) QE 2 rfl rfl rfl ?_;intro W2 b2 e2 B2 K2;replace M:=hide ((Qa M).new e2 B2 K2);clear e2 B2 K2;refine Stp.go ?_))
 constructor
 go_wp2_with (first |(refine Qg Zc rfl (.tmp 1) rfl b1 0 rfl (u8s s) (by rw [Qy];exact hs) ((Qa M).at 0 _ rfl).range ?_;refine Stp.go ?_))
 constructor
 go_wp2_with (first |(refine QG (T:=59) (u8s (zs 64)) build28 rfl rfl ?_;refine Stp.go ?_))
 constructor
 go_wp2_with (first |(refine wpEqlA 59 59 guard28 (.tmp 5) (.tmp 6) rfl rfl (u8s s) (u8s (zs 64)) rfl rfl true ((equal28 _ s (zs 64) hs (by simp [zs])).trans (by rw [hz])) ?_;refine Stp.go ?_))
 constructor
 go_wp2_with (first |(refine Qg Qn rfl (.global 0) rfl 0 0 rfl (vwC fv) rfl (Qa M).first.at0 ?_;refine Stp.go ?_))
 constructor
 go_wp2_with (first |(refine Qh Qn rfl (.tmp 2) (.tmp 8) rfl rfl b2 1 (vwC fv) rfl rfl rfl (Ql _) (Qa M) rfl rfl ?_;intro W3 N3;replace M:Hid (Mm w W3 [(b1,59,u8s s),(b2,29,vwC fv)]):=hide N3;clear N3;refine Stp.go ?_))
 constructor
 go_wp2_with fail
 refine bodyPost_ret (res34 _ b2 (vwC fv) _ rfl rfl ((Qa M).at 1 _ rfl)) rfl ?_;exact⟨rfl,(Qa M).kept⟩
theorem get_a (s q:List Int) (v:Vw) (c:Int) (w:World) (hF:First w) (hs:s.length=64) (hq:q.length=64) (hv:v.ms.length=8) (h34:∀W,First W→Calls Tryz.prog 147 #[Qd (u8s s)] W fun e w'=>e= .returned (Qd (vwC v))∧Kept [] W w') (h8:∀W,First W→Calls Tryz.prog 148 #[Qd (vwC v)] W fun e w'=>e= .returned (.tuple #[Qd (u8s q),.int .i64 c])∧Kept [] W w') (hc:c=0) (he:decide (s=q)=true):Calls Tryz.prog 111 #[Qd (u8s s)] w fun x w'=>x= .returned (two (v,0))∧Kept [] w w':=by
 have P34:∀W,First W→Hid (Calls Tryz.prog 147 #[Qd (u8s s)] W fun e w'=>e= .returned (Qd (vwC v))∧Kept [] W w'):=fun W hW=>hide (h34 W hW);have P8:∀W,First W→Hid (Calls Tryz.prog 148 #[Qd (vwC v)] W fun e w'=>e= .returned (.tuple #[Qd (u8s q),.int .i64 c])∧Kept [] W w'):=fun W hW=>hide (h8 W hW);subst hc;clear h34 h8;go_enter Tryz.func111,Tryz.ntmps111
 have M:Hid (Mm w w []):=hide (Mm.init hF);go_wp2_with (first |(refine Qp rfl (.tmp 0) rfl (u8s s) rfl ?_;intro W1 b1 e1 B1 K1;replace M:=hide ((Qa M).new e1 B1 K1);clear e1 B1 K1;refine Stp.go ?_))
 constructor
 go_wp2_with (first |(refine Qv (vwC zv) QE 2 rfl rfl rfl ?_;intro W2 b2 e2 B2 K2;replace M:=hide ((Qa M).new e2 B2 K2);clear e2 B2 K2;refine Stp.go ?_))
 constructor
 go_wp2_with (first |(refine Qg Zc rfl (.tmp 1) rfl b1 0 rfl (u8s s) (by rw [Qy];exact hs) ((Qa M).at 0 _ rfl).range ?_;refine Stp.go ?_))
 constructor
 go_wp2_with (first |(go_at_call 147;refine(Qa (P34 _ (Qa M).first)).mono ?_;rintro e W3 ⟨rfl,K3⟩;replace M:=hide ((Qa M).step K3);clear K3;refine Stp.go ?_))
 constructor
 go_wp2_with (first |(refine QM Qn (vwC zv) rfl QE 4 rfl rfl rfl (.tmp 8) rfl rfl rfl (vwC v) (Qk hv) (Ql _) (by kernel_rfl) (by kernel_rfl) ?_;intro W4 b4 e4 B4 K4;replace M:=hide ((Qa M).new e4 B4 K4);clear e4 B4 K4;refine Stp.go ?_))
 constructor
 go_wp2_with (first |(refine Qg Qn rfl (.tmp 4) rfl b4 0 rfl (vwC v) (Qk hv) ((Qa M).at 2 _ rfl).range ?_;refine Stp.go ?_))
 constructor
 go_wp2_with (first |(go_at_call 148;refine(Qa (P8 _ (Qa M).first)).mono ?_;rintro e W5 ⟨rfl,K5⟩;replace M:=hide ((Qa M).step K5);clear K5;refine Stp.go ?_))
 constructor
 go_wp2_with (first |(refine QM Zc (u8s (zs 64)) (zl 64) ZI 5 rfl rfl rfl (.tmp 12) rfl rfl rfl (u8s q) (by rw [Qy];exact hq) (QU _) (by kernel_rfl) (by kernel_rfl) ?_;intro W6 b6 e6 B6 K6;replace M:=hide ((Qa M).new e6 B6 K6);clear e6 B6 K6;refine Stp.go ?_))
 constructor
 go_wp2_with (first |(refine Zb Zc (.tmp 1) rfl rfl b1 0 rfl (u8s s) (by rw [Qy];exact hs) ((Qa M).at 0 _ rfl).range ?_;refine Stp.go ?_))
 constructor
 go_wp2_with (first |(refine Zb Zc (.tmp 5) rfl rfl b6 0 rfl (u8s q) (by rw [Qy];exact hq) ((Qa M).at 3 _ rfl).range ?_;refine Stp.go ?_))
 constructor
 go_wp2_with (first |(refine wpNeqG 59 59 guard28 (.tmp 17) (.tmp 18) rfl rfl (u8s s) (u8s q) rfl rfl true ((equal28 _ s q hs hq).trans (by rw [he])) ?_;refine Stp.go ?_))
 constructor
 go_wp2_with (first |(refine Qg Qn rfl (.tmp 4) rfl b4 0 rfl (vwC v) (Qk hv) ((Qa M).at 2 _ rfl).range ?_;refine Stp.go ?_))
 constructor
 go_wp2_with (first |(refine Qh Qn rfl (.tmp 2) (.tmp 22) rfl rfl b2 1 (vwC v) rfl rfl (Qk hv) (Ql _) (Qa M) rfl rfl ?_;intro W7 N7;replace M:Hid (Mm w W7 [(b1,59,u8s s),(b2,29,vwC v),(b4,29,vwC v),(b6,59,u8s q)]):=hide N7;clear N7;refine Stp.go ?_))
 constructor
 go_wp2_with fail
 refine bodyPost_ret (res9 _ b2 (vwC v) 0 _ rfl rfl (Qk hv) ((Qa M).at 1 _ rfl)) rfl ?_;exact⟨rfl,(Qa M).kept⟩
theorem get_b (s q:List Int) (v:Vw) (c:Int) (w:World) (hF:First w) (hs:s.length=64) (hq:q.length=64) (hv:v.ms.length=8) (h34:∀W,First W→Calls Tryz.prog 147 #[Qd (u8s s)] W fun e w'=>e= .returned (Qd (vwC v))∧Kept [] W w') (h8:∀W,First W→Calls Tryz.prog 148 #[Qd (vwC v)] W fun e w'=>e= .returned (.tuple #[Qd (u8s q),.int .i64 c])∧Kept [] W w') (hc:c=0) (he:decide (s=q)=false):Calls Tryz.prog 111 #[Qd (u8s s)] w fun x w'=>x= .returned (two (zv,12))∧Kept [] w w':=by
 have P34:∀W,First W→Hid (Calls Tryz.prog 147 #[Qd (u8s s)] W fun e w'=>e= .returned (Qd (vwC v))∧Kept [] W w'):=fun W hW=>hide (h34 W hW);have P8:∀W,First W→Hid (Calls Tryz.prog 148 #[Qd (vwC v)] W fun e w'=>e= .returned (.tuple #[Qd (u8s q),.int .i64 c])∧Kept [] W w'):=fun W hW=>hide (h8 W hW);subst hc;clear h34 h8;go_enter Tryz.func111,Tryz.ntmps111
 have M:Hid (Mm w w []):=hide (Mm.init hF);go_wp2_with (first |(refine Qp rfl (.tmp 0) rfl (u8s s) rfl ?_;intro W1 b1 e1 B1 K1;replace M:=hide ((Qa M).new e1 B1 K1);clear e1 B1 K1;refine Stp.go ?_))
 constructor
 go_wp2_with (first |(refine Qv (vwC zv) QE 2 rfl rfl rfl ?_;intro W2 b2 e2 B2 K2;replace M:=hide ((Qa M).new e2 B2 K2);clear e2 B2 K2;refine Stp.go ?_))
 constructor
 go_wp2_with (first |(refine Qg Zc rfl (.tmp 1) rfl b1 0 rfl (u8s s) (by rw [Qy];exact hs) ((Qa M).at 0 _ rfl).range ?_;refine Stp.go ?_))
 constructor
 go_wp2_with (first |(go_at_call 147;refine(Qa (P34 _ (Qa M).first)).mono ?_;rintro e W3 ⟨rfl,K3⟩;replace M:=hide ((Qa M).step K3);clear K3;refine Stp.go ?_))
 constructor
 go_wp2_with (first |(refine QM Qn (vwC zv) rfl QE 4 rfl rfl rfl (.tmp 8) rfl rfl rfl (vwC v) (Qk hv) (Ql _) (by kernel_rfl) (by kernel_rfl) ?_;intro W4 b4 e4 B4 K4;replace M:=hide ((Qa M).new e4 B4 K4);clear e4 B4 K4;refine Stp.go ?_))
 constructor
 go_wp2_with (first |(refine Qg Qn rfl (.tmp 4) rfl b4 0 rfl (vwC v) (Qk hv) ((Qa M).at 2 _ rfl).range ?_;refine Stp.go ?_))
 constructor
 go_wp2_with (first |(go_at_call 148;refine(Qa (P8 _ (Qa M).first)).mono ?_;rintro e W5 ⟨rfl,K5⟩;replace M:=hide ((Qa M).step K5);clear K5;refine Stp.go ?_))
 constructor
 go_wp2_with (first |(refine QM Zc (u8s (zs 64)) (zl 64) ZI 5 rfl rfl rfl (.tmp 12) rfl rfl rfl (u8s q) (by rw [Qy];exact hq) (QU _) (by kernel_rfl) (by kernel_rfl) ?_;intro W6 b6 e6 B6 K6;replace M:=hide ((Qa M).new e6 B6 K6);clear e6 B6 K6;refine Stp.go ?_))
 constructor
 go_wp2_with (first |(refine Zb Zc (.tmp 1) rfl rfl b1 0 rfl (u8s s) (by rw [Qy];exact hs) ((Qa M).at 0 _ rfl).range ?_;refine Stp.go ?_))
 constructor
 go_wp2_with (first |(refine Zb Zc (.tmp 5) rfl rfl b6 0 rfl (u8s q) (by rw [Qy];exact hq) ((Qa M).at 3 _ rfl).range ?_;refine Stp.go ?_))
 constructor
 go_wp2_with (first |(refine wpNeqG 59 59 guard28 (.tmp 17) (.tmp 18) rfl rfl (u8s s) (u8s q) rfl rfl false ((equal28 _ s q hs hq).trans (by rw [he])) ?_;refine Stp.go ?_))
 constructor
 go_wp2_with (first |(refine Qh Qn rfl (.tmp 2) (.tmp 21) rfl rfl b2 1 (vwC zv) rfl rfl rfl (Ql _) (Qa M) rfl rfl ?_;intro W7 N7;replace M:Hid (Mm w W7 [(b1,59,u8s s),(b2,29,vwC zv),(b4,29,vwC v),(b6,59,u8s q)]):=hide N7;clear N7;refine Stp.go ?_))
 constructor
 go_wp2_with fail
 refine bodyPost_ret (res9 _ b2 (vwC zv) 12 _ rfl rfl rfl ((Qa M).at 1 _ rfl)) rfl ?_;exact⟨rfl,(Qa M).kept⟩
theorem get_c (s q:List Int) (v:Vw) (c:Int) (w:World) (hF:First w) (hs:s.length=64) (hq:q.length=64) (hv:v.ms.length=8) (h34:∀W,First W→Calls Tryz.prog 147 #[Qd (u8s s)] W fun e w'=>e= .returned (Qd (vwC v))∧Kept [] W w') (h8:∀W,First W→Calls Tryz.prog 148 #[Qd (vwC v)] W fun e w'=>e= .returned (.tuple #[Qd (u8s q),.int .i64 c])∧Kept [] W w') (hc:¬c=0):Calls Tryz.prog 111 #[Qd (u8s s)] w fun x w'=>x= .returned (two (zv,12))∧Kept [] w w':=by
 have P34:∀W,First W→Hid (Calls Tryz.prog 147 #[Qd (u8s s)] W fun e w'=>e= .returned (Qd (vwC v))∧Kept [] W w'):=fun W hW=>hide (h34 W hW);have P8:∀W,First W→Hid (Calls Tryz.prog 148 #[Qd (vwC v)] W fun e w'=>e= .returned (.tuple #[Qd (u8s q),.int .i64 c])∧Kept [] W w'):=fun W hW=>hide (h8 W hW);have hdc:(c == 0)=false:=by simpa using hc
 have hdn:(c !=0)=true:=by simpa using hc
 clear h34 h8;go_enter Tryz.func111,Tryz.ntmps111
 have M:Hid (Mm w w []):=hide (Mm.init hF);go_wp2_with (first |(refine Qp rfl (.tmp 0) rfl (u8s s) rfl ?_;intro W1 b1 e1 B1 K1;replace M:=hide ((Qa M).new e1 B1 K1);clear e1 B1 K1;refine Stp.go ?_))
 constructor
 go_wp2_with (first |(refine Qv (vwC zv) QE 2 rfl rfl rfl ?_;intro W2 b2 e2 B2 K2;replace M:=hide ((Qa M).new e2 B2 K2);clear e2 B2 K2;refine Stp.go ?_))
 constructor
 go_wp2_with (first |(refine Qg Zc rfl (.tmp 1) rfl b1 0 rfl (u8s s) (by rw [Qy];exact hs) ((Qa M).at 0 _ rfl).range ?_;refine Stp.go ?_))
 constructor
 go_wp2_with (first |(go_at_call 147;refine(Qa (P34 _ (Qa M).first)).mono ?_;rintro e W3 ⟨rfl,K3⟩;replace M:=hide ((Qa M).step K3);clear K3;refine Stp.go ?_))
 constructor
 go_wp2_with (first |(refine QM Qn (vwC zv) rfl QE 4 rfl rfl rfl (.tmp 8) rfl rfl rfl (vwC v) (Qk hv) (Ql _) (by kernel_rfl) (by kernel_rfl) ?_;intro W4 b4 e4 B4 K4;replace M:=hide ((Qa M).new e4 B4 K4);clear e4 B4 K4;refine Stp.go ?_))
 constructor
 go_wp2_with (first |(refine Qg Qn rfl (.tmp 4) rfl b4 0 rfl (vwC v) (Qk hv) ((Qa M).at 2 _ rfl).range ?_;refine Stp.go ?_))
 constructor
 go_wp2_with (first |(go_at_call 148;refine(Qa (P8 _ (Qa M).first)).mono ?_;rintro e W5 ⟨rfl,K5⟩;replace M:=hide ((Qa M).step K5);clear K5;refine Stp.go ?_))
 constructor
 go_wp2_with (first |(refine QM Zc (u8s (zs 64)) (zl 64) ZI 5 rfl rfl rfl (.tmp 12) rfl rfl rfl (u8s q) (by rw [Qy];exact hq) (QU _) (by kernel_rfl) (by kernel_rfl) ?_;intro W6 b6 e6 B6 K6;replace M:=hide ((Qa M).new e6 B6 K6);clear e6 B6 K6;refine Stp.go ?_))
 constructor
 go_wp2_with (first |(refine Qh Qn rfl (.tmp 2) (.tmp 21) rfl rfl b2 1 (vwC zv) rfl rfl rfl (Ql _) (Qa M) rfl rfl ?_;intro W7 N7;replace M:Hid (Mm w W7 [(b1,59,u8s s),(b2,29,vwC zv),(b4,29,vwC v),(b6,59,u8s q)]):=hide N7;clear N7;refine Stp.go ?_))
 constructor
 go_wp2_with fail
 refine bodyPost_ret (res9 _ b2 (vwC zv) 12 _ rfl rfl rfl ((Qa M).at 1 _ rfl)) rfl ?_;exact⟨rfl,(Qa M).kept⟩
theorem get_zero (w:World) (hF:First w):Calls Tryz.prog 111 #[Qd (u8s (zs 64))] w fun x w'=>x= .returned (two (fv,0))∧Kept [] w w':=
 get_a (zs 64) (zs 64) fv 0 w hF (by simp [zs]) (by simp [zs]) rfl (fun W hW=>viewin_z (zs 64) W hW (by simp [zs]) (by simp)) (fun W hW=>put_b fv W hW rfl rfl (by simp)) rfl (by simp)
end Go.Proofs.YtcfflbafclmheaaGreatDoor.Vi
