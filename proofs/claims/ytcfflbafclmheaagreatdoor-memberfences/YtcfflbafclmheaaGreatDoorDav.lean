/-
  Texts of the walks of member, shortened.
-/
import Derived.Test.YtcfflbafclmheaaGreatDoorDat
import Derived.Test.YtcfflbafclmheaaGreatDoorDau
set_option maxRecDepth 100000
set_option maxHeartbeats 100000000
set_option linter.unusedSimpArgs false
namespace Go.Proofs.YtcfflbafclmheaaGreatDoor
open Go.RowKit
open Le (Mm Qh Qo)
theorem cg113 (vs:Array Value) (w:World):(callFunc 113 vs).run Tryz.prog w= .ok (.enter 113 vs) w:=by kernel_rfl
theorem cg50 (vs:Array Value) (w:World):(callFunc 50 vs).run Tryz.prog w= .ok (.enter 50 vs) w:=by kernel_rfl
theorem build29of (w:World) (o:Bool) (f:Int):(Instr.build 29 #[(1,.bool o),(2,.int .i64 f)]).run Tryz.prog w= .ok (Qd (Vi.vwC ⟨0,o,f,Vi.no8⟩)) w:=by kernel_rfl
theorem res49 (w:World) (z:Nat) (vs:List Value) (e:Bool) (tmps:Array Value) (h4:tmps[2]?.getD undef=P0 z) (h5:tmps[3]?.getD undef= .bool e) (hl:vs.length=19) (hb:Blk w z 29 vs):(results Tryz.f49 tmps).run Tryz.prog w= .ok (.tuple #[Qd vs,.bool e]) w:=by
 have:=Zq Vi.Qn hl hb;simp [results,Tryz.results49,h4,h5,this,asAddr]
section
variable {ops:Array Oper} {rest:List Oper} {op o:Oper} {a:Act} {w w0:World} {K:Act→World→Prop} {Q:Exit→Act→World→Prop}
theorem o_eql20 (x:Operand) (ho:o.op= .binOp .eql 2 x (.const (.int .i64 0)) 2) (m:Int) (r:Bool) (hr:decide (m=0)=r) (hx:a.eval x= .int .i64 m) (h:K (a.put o.dst (.bool r)) w):o.wp Tryz.prog a w K Q:=by
 subst hr;unfold Oper.wp execOp;simp only [ho,hx];simp [go_sem,Act.eval];have e:(m == 0)=decide (m=0):=by rw [Bool.eq_iff_iff];simp
 rw [e];exact h
theorem wpEql5 (hgd:op.guard=none) (x:Operand) (ho:op.op= .binOp .eql 5 x (.const (.int .u8 1)) 5) (m:Int) (r:Bool) (hr:decide (m=1)=r) (hx:a.eval x= .int .u8 m)
 (h:wpList Tryz.prog ops Q rest (a.put op.dst (.bool r)) w):wpList Tryz.prog ops Q (op::rest) a w:=wpList_plain hgd fun _ hK=>Vi.o_eql5 x ho m r hr hx (hK _ _ h)
theorem wpEql31 (hgd:op.guard=none) (x:Operand) (c:Int) (ho:op.op= .binOp .eql 3 x (.const (.int .i64 c)) 3) (m:Int) (r:Bool) (hr:decide (m=c)=r) (hx:a.eval x= .int .i64 m)
 (h:wpList Tryz.prog ops Q rest (a.put op.dst (.bool r)) w):wpList Tryz.prog ops Q (op::rest) a w:=wpList_plain hgd fun _ hK=>o_eql3 x c ho m r hr hx (hK _ _ h)
theorem wpQuo2 (hgd:op.guard=none) (x:Operand) (ho:op.op= .binOp .quo 3 x (.const (.int .i64 2)) 3) (m:Int) (hm:0≤m∧m≤9223372036854775807) (hx:a.eval x= .int .i64 m)
  (h:wpList Tryz.prog ops Q rest (a.put op.dst (.int .i64 (m/2))) w):wpList Tryz.prog ops Q (op::rest) a w:=
 wpList_plain hgd fun K hK=>by
  have ht:Int.tdiv m 2=m/2:=Int.tdiv_eq_ediv_of_nonneg hm.1;have hw:IntKind.i64.wrap (m/2)=m/2:=by rw [IntKind.wrap_i64];omega
  unfold Oper.wp execOp;simp only [ho,hx];simp [go_sem,Act.eval,ht,hw];exact hK _ _ h
end
theorem memsC_set2:∀(l:List (Bool×Int)) (j:Nat) (a:Bool) (e:Int),j<l.length→((Vi.QP l).set (j*2) (.bool a)).set (j*2+1) (.int .i64 e)=Vi.QP (l.set j (a,e))
 | m::l,0,a,e,_=>by simp [Vi.QP,Vi.QD]
 | m::l,j+1,a,e,h=>by
  have ih:=memsC_set2 l j a e (by simpa using h);have e1:Vi.QP (m::l)= .bool m.1:: .int .i64 m.2::Vi.QP l:=rfl;have e2:Vi.QP ((m::l).set (j+1) (a,e))= .bool m.1:: .int .i64 m.2::Vi.QP (l.set j (a,e)):=rfl;rw [e1,e2,← ih,show(j+1)*2=j*2+1+1 by omega];rfl
theorem vwC_set2 (n:Int) (o:Bool) (f:Int) (l:List (Bool×Int)) (j:Nat) (a:Bool) (e:Int) (h:j<l.length):((Vi.vwC ⟨n,o,f,l⟩).set (3+j*2) (.bool a)).set (3+j*2+1) (.int .i64 e)=Vi.vwC ⟨n,o,f,l.set j (a,e)⟩:=by
 have ih:=memsC_set2 l j a e h;show _=Value.int .i64 n:: .bool o:: .int .i64 f::Vi.QP (l.set j (a,e));rw [← ih,show 3+j*2=j*2+1+1+1 by omega];rfl
theorem build59z (w:World):(Instr.build 59 #[]).run Tryz.prog w= .ok (Qd (u8s (Vi.zs 64))) w:=by kernel_rfl
theorem gv_z (s:List Int) (w:World) (hsl:s.length=64) (hz:decide (s=Vi.zs 64)=true):Calls Tryz.prog 49 #[Qd (u8s s)] w fun x w'=>x= .returned (.tuple #[Qd (Vi.vwC Vi.fv),.bool true])∧Kept [] w w':=by
 have HSL:=hide hsl;have HZ:=hide hz;clear hz hsl;go_enter Tryz.func49,Tryz.ntmps49
 have M:Hid (Mm [] w w []):=hide Mm.init;go_wp2_with (first |(refine Qp rfl (.tmp 0) rfl (u8s s) rfl ?_;intro W1 b1 e1 B1 K1;replace M:=hide ((Qa M).new e1 B1 K1);clear e1 B1 K1;refine Stp.go ?_))
 constructor
 go_wp2_with (first |(refine Qv (Vi.vwC Vi.zv) Vi.QE 2 rfl rfl rfl ?_;intro W2 b2 e2 B2 K2;replace M:=hide ((Qa M).new e2 B2 K2);clear e2 B2 K2;refine Stp.go ?_))
 constructor
 go_wp2_with (first |(refine Qg Vi.Zc rfl (.tmp 1) rfl b1 0 rfl (u8s s) (by rw [Qy];exact Qa HSL) ((Qa M).at 0 _ rfl).range ?_;refine Stp.go ?_))
 constructor
 go_wp2_with (first |(refine QG (u8s (Vi.zs 64)) build59z rfl rfl ?_;refine Stp.go ?_))
 constructor
 go_wp2_with (first |(refine wpEqlA 59 59 Vi.guard28 (.tmp 7) (.tmp 8) rfl rfl (u8s s) (u8s (Vi.zs 64)) rfl rfl true ((Vi.equal28 _ s (Vi.zs 64) (Qa HSL) rfl).trans (by rw [Qa HZ])) ?_;refine Stp.go ?_))
 constructor
 go_wp2_with (first |(refine Ar.Zm rfl #[(1,.const (.bool true))] rfl #[(1,.bool true)] (by simp [Act.eval]) (Vi.vwC Vi.fv) (build29f _) ?_;refine Stp.go ?_))
 constructor
 go_wp2_with (first |(refine Qh Vi.Qn rfl (.tmp 2) (.tmp 10) rfl rfl b2 1 (Vi.vwC Vi.fv) rfl rfl rfl (Vi.Ql _) (Qa M) rfl rfl ?_;intro W3 N3;replace M:Hid (Mm [] w W3 [(b1,59,u8s s),(b2,29,Vi.vwC Vi.fv)]):=hide N3;clear N3;refine Stp.go ?_))
 constructor
 go_wp2_with fail
 refine bodyPost_ret (res49 _ b2 (Vi.vwC Vi.fv) true _ rfl rfl rfl ((Qa M).at 1 _ rfl)) rfl ?_;exact⟨rfl,(Qa M).kept⟩
theorem gv_big (s:List Int) (w:World) (hs:Le.Byts 64 s) (hz:decide (s=Vi.zs 64)=false) (x1 x2 x3 x4:Int) (H1:Hid ((u8s s)[1]?=some (.int .u8 x1))) (H2:Hid ((u8s s)[2]?=some (.int .u8 x2))) (_H3:Hid ((u8s s)[3]?=some (.int .u8 x3))) (H4:Hid ((u8s s)[4]?=some (.int .u8 x4))) (o1:Bool) (ho1:decide (x1=1)=o1) (hb2:0≤x2∧x2<256) (hx4:decide (64<x4)=true):Calls Tryz.prog 49 #[Qd (u8s s)] w fun x w'=>x= .returned (.tuple #[Qd (Vi.vwC Vi.zv),.bool false])∧Kept [] w w':=by
 have HSL:=hide hs.len;have HSS:=hide hs;have HZ:=hide hz;have HO:=hide ho1;clear hz ho1 hs;obtain⟨hb20,hb21⟩:=hb2;go_enter Tryz.func49,Tryz.ntmps49
 have M:Hid (Mm [] w w []):=hide Mm.init;go_wp2_with (first |(refine Qp rfl (.tmp 0) rfl (u8s s) rfl ?_;intro W1 b1 e1 B1 K1;replace M:=hide ((Qa M).new e1 B1 K1);clear e1 B1 K1;refine Stp.go ?_))
 constructor
 go_wp2_with (first |(refine Qv (Vi.vwC Vi.zv) Vi.QE 2 rfl rfl rfl ?_;intro W2 b2 e2 B2 K2;replace M:=hide ((Qa M).new e2 B2 K2);clear e2 B2 K2;refine Stp.go ?_))
 constructor
 go_wp2_with (first |(refine Qg Vi.Zc rfl (.tmp 1) rfl b1 0 rfl (u8s s) (by rw [Qy];exact Qa HSL) ((Qa M).at 0 _ rfl).range ?_;refine Stp.go ?_))
 constructor
 go_wp2_with (first |(refine QG (u8s (Vi.zs 64)) build59z rfl rfl ?_;refine Stp.go ?_))
 constructor
 go_wp2_with (first |(refine wpEqlA 59 59 Vi.guard28 (.tmp 7) (.tmp 8) rfl rfl (u8s s) (u8s (Vi.zs 64)) rfl rfl false ((Vi.equal28 _ s (Vi.zs 64) (Qa HSL) rfl).trans (by rw [Qa HZ])) ?_;have c1:=Qb ((Qa M).at 0 _ rfl) 1 _ (Qa H1);have c2:=Qb ((Qa M).at 0 _ rfl) 2 _ (Qa H2);refine Stp.go ?_))
 constructor
 go_wp2_with (first |(refine wpEql5 rfl (.tmp 12) rfl x1 o1 (Qa HO) rfl ?_;refine Stp.go ?_))
 constructor
 go_wp2_with (first |(refine Ar.Zm rfl #[(1,.tmp 13),(2,.tmp 16)] rfl #[(1,.bool o1),(2,.int .i64 x2)] (by simp [Act.eval]) (Vi.vwC ⟨0,o1,x2,Vi.no8⟩) (build29of _ _ _) ?_;refine Stp.go ?_))
 constructor
 go_wp2_with (first |(refine QM Vi.Qn (Vi.vwC Vi.zv) rfl Vi.QE 4 rfl rfl rfl (.tmp 17) rfl rfl rfl (Vi.vwC ⟨0,o1,x2,Vi.no8⟩) rfl (Vi.Ql _) (by kernel_rfl) (by kernel_rfl) ?_;intro W3 b3 e3 B3 K3;replace M:=hide ((Qa M).new e3 B3 K3);clear e3 B3 K3;clear c1 c2;have c4:=Qb ((Qa M).at 0 _ rfl) 4 _ (Qa H4);refine Stp.go ?_))
 constructor
 go_wp2_with (first |(refine QG (Vi.vwC Vi.zv) Vi.Zi rfl rfl ?_;refine Stp.go ?_))
 constructor
 go_wp2_with (first |(refine Qh Vi.Qn rfl (.tmp 2) (.tmp 21) rfl rfl b2 1 (Vi.vwC Vi.zv) rfl rfl rfl (Vi.Ql _) (Qa M) rfl rfl ?_;intro W4 N4;replace M:Hid (Mm [] w W4 [(b1,59,u8s s),(b2,29,Vi.vwC Vi.zv),(b3,29,Vi.vwC ⟨0,o1,x2,Vi.no8⟩)]):=hide N4;clear N4;refine Stp.go ?_))
 constructor
 go_wp2_with fail
 refine bodyPost_ret (res49 _ b2 (Vi.vwC Vi.zv) false _ rfl rfl rfl ((Qa M).at 1 _ rfl)) rfl ?_;exact⟨rfl,(Qa M).kept⟩
theorem gv_all (s:List Int) (w:World) (hs:Le.Byts 64 s) (hz:decide (s=Vi.zs 64)=false) (x1 x2 x3 x4:Int) (H1:Hid ((u8s s)[1]?=some (.int .u8 x1))) (H2:Hid ((u8s s)[2]?=some (.int .u8 x2))) (H3:Hid ((u8s s)[3]?=some (.int .u8 x3))) (H4:Hid ((u8s s)[4]?=some (.int .u8 x4))) (o1:Bool) (ho1:decide (x1=1)=o1) (hb2:0≤x2∧x2<256) (hx4:decide (64<x4)=false) (hb3:0≤x3∧x3<256) (V:Vi.Vw) (hV:⟨Le.ofB 0 ((s.drop 4).take 8),o1,x2,(List.range 8).map (Vi.ZG s)⟩=V) (hme:∀i,Vi.ZG s i=(decide (x3/2^i%2=1),Le.ofB 0 ((s.drop (12+4*i)).take 4))) (R:Vi.Vw) (RB:Bool) (HCASE:Hid ((V.may=false∧R=Vi.zv∧RB=false)∨(V.may=true∧decide (V.nu=0)=true∧R=Vi.zv∧RB=false)∨(∃q:List Int,V.may=true∧decide (V.nu=0)=false∧q.length=64∧(∀W,Calls Tryz.prog 113 #[Qd (Vi.vwC V)] W fun e w'=>e= .returned (Qd (u8s q))∧Kept [] W w')∧decide (q=s)=true∧V=R∧RB=true)∨(∃q:List Int,V.may=true∧decide (V.nu=0)=false∧q.length=64∧(∀W,Calls Tryz.prog 113 #[Qd (Vi.vwC V)] W fun e w'=>e= .returned (Qd (u8s q))∧Kept [] W w')∧decide (q=s)=false∧R=Vi.zv∧RB=false))):Calls Tryz.prog 49 #[Qd (u8s s)] w fun x w'=>x= .returned (.tuple #[Qd (Vi.vwC R),.bool RB])∧Kept [] w w':=by
 have HSL:=hide hs.len;have HSS:=hide hs;have HZ:=hide hz;have HO:=hide ho1;clear hz ho1 hs;obtain⟨hb20,hb21⟩:=hb2;have HME:=hide hme;have HVV:=hide hV;have HVL:Hid ((Vi.vwC V).length=19):=by show _=_;rw [← hV];exact Vi.Qk (by simp)
 have hvl:V.ms.length=8:=by rw [← hV];simp
 have HV8:=hide hvl;clear hme hV hvl;obtain⟨hb30,hb31⟩:=hb3;go_enter Tryz.func49,Tryz.ntmps49
 have M:Hid (Mm [] w w []):=hide Mm.init;go_wp2_with (first |(refine Qp rfl (.tmp 0) rfl (u8s s) rfl ?_;intro W1 b1 e1 B1 K1;replace M:=hide ((Qa M).new e1 B1 K1);clear e1 B1 K1;refine Stp.go ?_))
 constructor
 go_wp2_with (first |(refine Qv (Vi.vwC Vi.zv) Vi.QE 2 rfl rfl rfl ?_;intro W2 b2 e2 B2 K2;replace M:=hide ((Qa M).new e2 B2 K2);clear e2 B2 K2;refine Stp.go ?_))
 constructor
 go_wp2_with (first |(refine Qg Vi.Zc rfl (.tmp 1) rfl b1 0 rfl (u8s s) (by rw [Qy];exact Qa HSL) ((Qa M).at 0 _ rfl).range ?_;refine Stp.go ?_))
 constructor
 go_wp2_with (first |(refine QG (u8s (Vi.zs 64)) build59z rfl rfl ?_;refine Stp.go ?_))
 constructor
 go_wp2_with (first |(refine wpEqlA 59 59 Vi.guard28 (.tmp 7) (.tmp 8) rfl rfl (u8s s) (u8s (Vi.zs 64)) rfl rfl false ((Vi.equal28 _ s (Vi.zs 64) (Qa HSL) rfl).trans (by rw [Qa HZ])) ?_;have c1:=Qb ((Qa M).at 0 _ rfl) 1 _ (Qa H1);have c2:=Qb ((Qa M).at 0 _ rfl) 2 _ (Qa H2);refine Stp.go ?_))
 constructor
 go_wp2_with (first |(refine wpEql5 rfl (.tmp 12) rfl x1 o1 (Qa HO) rfl ?_;refine Stp.go ?_))
 constructor
 go_wp2_with (first |(refine Ar.Zm rfl #[(1,.tmp 13),(2,.tmp 16)] rfl #[(1,.bool o1),(2,.int .i64 x2)] (by simp [Act.eval]) (Vi.vwC ⟨0,o1,x2,Vi.no8⟩) (build29of _ _ _) ?_;refine Stp.go ?_))
 constructor
 go_wp2_with (first |(refine QM Vi.Qn (Vi.vwC Vi.zv) rfl Vi.QE 4 rfl rfl rfl (.tmp 17) rfl rfl rfl (Vi.vwC ⟨0,o1,x2,Vi.no8⟩) rfl (Vi.Ql _) (by kernel_rfl) (by kernel_rfl) ?_;intro W3 b3 e3 B3 K3;replace M:=hide ((Qa M).new e3 B3 K3);clear e3 B3 K3;clear c1 c2;have c4:=Qb ((Qa M).at 0 _ rfl) 4 _ (Qa H4);refine Stp.go ?_))
 constructor
 go_wp2_with (first |(refine Qg Vi.Zc rfl (.tmp 1) rfl b1 0 rfl (u8s s) (by rw [Qy];exact Qa HSL) ((Qa M).at 0 _ rfl).range ?_;refine Stp.go ?_))
 constructor
 go_wp2_with (first |(go_at_call 112;refine(Le.said112 8 4 s _ (Qa HSS) (by omega)).mono ?_;rintro e W4 ⟨rfl,K4⟩;replace M:=hide ((Qa M).step K4);clear K4 c4;refine Stp.go ?_))
 constructor
 go_wp2_with (first |(refine Qo Le.size2 rfl (.tmp 24) (.tmp 23) rfl rfl b3 0 2 (.int .i64 (Le.ofB 0 ((s.drop 4).take 8))) ⟨rfl,rfl⟩ rfl rfl (Qa M) rfl (by simp [Vi.vwC]) ?_;intro W5 N5;replace M:Hid (Mm [] w W5 [(b1,59,u8s s),(b2,29,Vi.vwC Vi.zv),(b3,29,Vi.vwC ⟨Le.ofB 0 ((s.drop 4).take 8),o1,x2,((List.range 8).map (Vi.ZG s)).take (0)++Vi.no8.drop (0)⟩)]):=hide N5;clear N5;have c3:=Qb ((Qa M).at 0 _ rfl) 3 _ (Qa H3);refine Stp.go ?_))
 constructor
 go_wp2_with fail
 clear c3;go_loopw [5,6] (fun xb xn wr=>∃j:Nat,j≤8∧xb= .int .i64 (x3/2^j)∧xn= .int .i64 j∧Hid (Mm [] w wr [(b1,59,u8s s),(b2,29,Vi.vwC Vi.zv),(b3,29,Vi.vwC ⟨Le.ofB 0 ((s.drop 4).take 8),o1,x2,((List.range 8).map (Vi.ZG s)).take (j)++Vi.no8.drop (j)⟩)])) (fun _ i _=>(8-intOf i).toNat)
 case atStart=>exact ⟨0,by omega,by simp,rfl,M⟩
 case round=>
  clear M;obtain⟨j,hj,rfl,rfl,M⟩:=hrel;by_cases hlt:j<8
  · have hd:decide ((j:Int)<8)=true:=by simp;omega
    have hj8:(j:Int)<8:=by omega
    have HLT:=hide hlt;have HFL:Hid ((((List.range 8).map (Vi.ZG s)).take (j)++Vi.no8.drop (j)).length=8):=by show _=_;simp [Vi.no8];omega
    obtain⟨y,hy⟩:∃y,y=x3/2^j:=⟨_,rfl⟩;have hy0:0≤y∧y≤255:=by
      rw [hy];have h1:(0:Int)<2^j:=Int.pow_pos (by omega);have h2:=Int.ediv_le_self (2^j) hb30;exact⟨Int.ediv_nonneg hb30 (by omega),by omega⟩
    have HY:Hid (0≤y∧y≤9223372036854775807):=by show _∧_;omega
    have HYN:Hid (x3/2^(j+1)=y/2):=by show _=_;rw [hy,Int.pow_succ,Int.ediv_ediv_of_nonneg (by exact Int.le_of_lt (Int.pow_pos (by omega)))]
    have HMJ:Hid (Vi.ZG s j=(decide (y%2=1),Le.ofB 0 ((s.drop (12+4*j)).take 4))):=by show _=_;rw [hy];exact Qa HME j
    rw [← hy];obtain⟨L,hL⟩:∃L,L=((List.range 8).map (Vi.ZG s)).take (j)++Vi.no8.drop (j):=⟨_,rfl⟩;have HLL:=hide hL;rw [← hL] at M HFL;clear hy hy0 hL;obtain⟨bb,hbb⟩:∃bb,decide (y%2=1)=bb:=⟨_,rfl⟩;have HBB:=hide hbb;clear hbb;have HO12:Hid (12+4*j+4≤64):=by show _≤_;omega
    go_wp2_with (first |(refine Vi.wpRemI rfl (.tmp 33) (.const (.int .i64 2)) rfl y 2 (y%2) rfl (Qa HY) (by omega) rfl rfl ?_;refine Stp.go ?_))
    constructor
    go_wp2_with (first |(refine wpEql31 rfl (.tmp 34) 1 rfl (y%2) bb (Qa HBB) rfl ?_;refine Stp.go ?_))
    constructor
    go_wp2_with (first |(refine Qo Le.size4 rfl (.tmp 38) (.tmp 35) rfl rfl b3 (3+j*2) 2 (.bool bb) ⟨rfl,rfl⟩ rfl rfl (Qa M) rfl (by rw [Vi.Qk (Qa HFL)];have:=Qa HLT;omega) ?_;intro W61 N61;replace M:Hid (Mm [] w W61 [(b1,59,u8s s),(b2,29,Vi.vwC Vi.zv),(b3,29,(Vi.vwC ⟨Le.ofB 0 ((s.drop 4).take 8),o1,x2,L⟩).set (3+j*2) (.bool bb))]):=hide N61;clear N61;refine Stp.go ?_))
    constructor
    go_wp2_with (first |(refine Qg Vi.Zc rfl (.tmp 1) rfl b1 0 rfl (u8s s) (by rw [Qy];exact Qa HSL) ((Qa M).at 0 _ rfl).range ?_;refine Stp.go ?_))
    constructor
    go_wp2_with (first |(go_at_call 112;refine(Le.said112 4 (12+4*j) s _ (Qa HSS) (Qa HO12)).mono ?_;rintro e W62 ⟨rfl,K62⟩;replace M:=hide ((Qa M).step K62);clear K62;refine Stp.go ?_))
    constructor
    go_wp2_with (
      first
      | (refine Qo Le.size2 rfl (.tmp 47) (.tmp 44) rfl rfl b3 (3+j*2+1) 2 (.int .i64 (Le.ofB 0 ((s.drop (12+4*j)).take 4))) ⟨rfl,rfl⟩ rfl rfl (Qa M) rfl (by rw [List.length_set,Vi.Qk (Qa HFL)];have:=Qa HLT;omega) ?_
         intro W63 N63;replace M:Hid (Mm [] w W63 [(b1,59,u8s s),(b2,29,Vi.vwC Vi.zv),(b3,29,Vi.vwC ⟨Le.ofB 0 ((s.drop 4).take 8),o1,x2,((List.range 8).map (Vi.ZG s)).take (j+1)++Vi.no8.drop (j+1)⟩)]):=by
           have h9:Mm [] w W63 [(b1,59,u8s s),(b2,29,Vi.vwC Vi.zv),(b3,29,((Vi.vwC ⟨Le.ofB 0 ((s.drop 4).take 8),o1,x2,L⟩).set (3+j*2) (.bool bb)).set (3+j*2+1) (.int .i64 (Le.ofB 0 ((s.drop (12+4*j)).take 4))))]:=N63;rw [vwC_set2 _ _ _ _ _ _ _ (by rw [Qa HFL];exact Qa HLT),← Qa HBB,← Qa HMJ,Qa HLL,Vi.fill_next s j (Qa HLT)] at h9;exact h9
         clear N63;refine Stp.go ?_))
    constructor
    go_wp2_with (first |(refine wpQuo2 rfl (.tmp 48) rfl y (Qa HY) rfl ?_;refine Stp.go ?_))
    constructor
    go_wp2_with fail
    go_roundw
    case rel=>exact ⟨j+1,by omega,by rw [Qa HYN],by first | rfl | go_num,M⟩
    case measure=>simp [intOf];omega
  · obtain rfl:j=8:=by omega
    have h9:=Qa M;rw [show ((List.range 8).map (Vi.ZG s)).take (8)++Vi.no8.drop (8)=(List.range 8).map (Vi.ZG s) by rfl,Qa HVV] at h9;replace M:=hide h9;clear h9;rcases Qa HCASE with ⟨hm,rfl,rfl⟩ | ⟨hm,hn,rfl,rfl⟩ | ⟨q,hm,hn,hq,hp,he,rfl,rfl⟩ | ⟨q,hm,hn,hq,hp,he,rfl,rfl⟩
    · have PM:=hide (fun W=>Vi.rmay50 V W (Qa HV8));rw [hm] at PM;clear hm HCASE;go_wp2_with fail
      refine wp_region_any mixed (QW 14 rfl (by kernel_rfl) [some (Qd (Vi.vwC V)),some (.bool false),some (.bool true),some (.bool true),none,none,none,some (.bool true),some (.bool true),none,none,none,none,some (.bool true)] rfl (by kernel_rfl) (by kernel_rfl) ?_ ?_)
      · intro i o' hi hsk ho a' w2 hout hin hk2;replace hk2:Kept [] wr w2:=⟨hk2.os,hk2.tape,hk2.output,hk2.size,hk2.block⟩
        match i,ho,hsk with
        | 0,ho,hsk=>
          obtain rfl:=Oj9 ho;exact Qw Vi.Qn (.tmp 4) rfl b3 0 ((hout 4 (by kernel_rfl)).trans rfl) (Vi.vwC V) (Qa HVL) (((Qa M).step hk2).at 2 _ rfl).range (tE rfl)
        | 1,ho,hsk=>
          obtain rfl:=Oj9 ho;have e0:a'.eval (.tmp 50)=Qd (Vi.vwC V):=Qm (hin 0 50 (by kernel_rfl) (by kernel_rfl)) rfl;refine Qq 50 _ _ rfl #[Qd (Vi.vwC V)] (by simp [e0]) (cg50 _ _) ((Qa PM _).mono ?_);rintro e w3 ⟨rfl,hk3⟩;exact⟨_,rfl,_,rfl,Qi _ _ _ _ rfl,hk3,fun _ _ _ _ _=>trivial⟩
        | 2,ho,hsk=>
          obtain rfl:=Oj9 ho;have e0:a'.eval (.tmp 51)= .bool false:=Qm (hin 1 51 (by kernel_rfl) (by kernel_rfl)) rfl;exact o_not (.tmp 51) rfl false e0 (tE rfl)
        | 3,ho,hsk=>
          obtain rfl:=Oj9 ho;have e0:a'.eval (.tmp 52)= .bool true:=Qm (hin 2 52 (by kernel_rfl) (by kernel_rfl)) rfl;exact wp_move (.tmp 52) rfl _ e0 (tE rfl)
        | 4,ho,hsk=>
          cases hsk
        | 5,ho,hsk=>
          cases hsk
        | 6,ho,hsk=>
          cases hsk
        | 7,ho,hsk=>
          obtain rfl:=Oj9 ho;have e0:a'.eval (.tmp 53)= .bool true:=Qm (hin 3 53 (by kernel_rfl) (by kernel_rfl)) rfl;exact o_pickOrT (.tmp 53) (.tmp 56) rfl e0 (tE rfl)
        | 8,ho,hsk=>
          obtain rfl:=Oj9 ho;have e0:a'.eval (.tmp 57)= .bool true:=Qm (hin 7 57 (by kernel_rfl) (by kernel_rfl)) rfl;exact wp_move (.tmp 57) rfl _ e0 (tE rfl)
        | 9,ho,hsk=>
          cases hsk
        | 10,ho,hsk=>
          cases hsk
        | 11,ho,hsk=>
          cases hsk
        | 12,ho,hsk=>
          cases hsk
        | 13,ho,hsk=>
          obtain rfl:=Oj9 ho;have e0:a'.eval (.tmp 58)= .bool true:=Qm (hin 8 58 (by kernel_rfl) (by kernel_rfl)) rfl;exact o_pickOrT (.tmp 58) (.tmp 62) rfl e0 (tE rfl)
      intro w9 hk9;replace hk9:Kept [] wr w9:=⟨hk9.os,hk9.tape,hk9.output,hk9.size,hk9.block⟩;simp only [valsQ,List.map_cons,List.map_nil,Option.getD_some,Option.getD_none,List.take_succ_cons,List.take_zero,Qz,Act.put,List.setIfInBounds_toArray,List.set_cons_succ,List.set_cons_zero];refine wpAny_done (by kernel_rfl) ?_ _;replace M:=hide ((Qa M).step hk9);clear hk9;go_wp2_with (first |(refine QG (Vi.vwC Vi.zv) Vi.Zi rfl rfl ?_;refine Stp.go ?_))
      constructor
      go_wp2_with (first |(refine Qh Vi.Qn rfl (.tmp 2) (.tmp 64) rfl rfl b2 1 (Vi.vwC Vi.zv) rfl rfl rfl (Vi.Ql _) (Qa M) rfl rfl ?_;intro W71 N71;replace M:Hid (Mm [] w W71 [(b1,59,u8s s),(b2,29,Vi.vwC Vi.zv),(b3,29,Vi.vwC V)]):=hide N71;clear N71;refine Stp.go ?_))
      constructor
      go_wp2_with fail
      refine bodyPost_ret (res49 _ b2 (Vi.vwC Vi.zv) false _ rfl rfl rfl ((Qa M).at 1 _ rfl)) rfl ?_;exact⟨rfl,(Qa M).kept⟩
    · have PM:=hide (fun W=>Vi.rmay50 V W (Qa HV8));rw [hm] at PM;have HN:=hide hn;clear hm HCASE hn;go_wp2_with fail
      refine wp_region_any mixed (QW 14 rfl (by kernel_rfl) [some (Qd (Vi.vwC V)),some (.bool true),some (.bool false),some (.bool false),some (.pointer (some ⟨b3,0,none⟩)),some (.int .i64 V.nu),some (.bool true),some (.bool true),some (.bool true),none,none,none,none,some (.bool true)] rfl (by kernel_rfl) (by kernel_rfl) ?_ ?_)
      · intro i o' hi hsk ho a' w2 hout hin hk2;replace hk2:Kept [] wr w2:=⟨hk2.os,hk2.tape,hk2.output,hk2.size,hk2.block⟩
        match i,ho,hsk with
        | 0,ho,hsk=>
          obtain rfl:=Oj9 ho;exact Qw Vi.Qn (.tmp 4) rfl b3 0 ((hout 4 (by kernel_rfl)).trans rfl) (Vi.vwC V) (Qa HVL) (((Qa M).step hk2).at 2 _ rfl).range (tE rfl)
        | 1,ho,hsk=>
          obtain rfl:=Oj9 ho;have e0:a'.eval (.tmp 50)=Qd (Vi.vwC V):=Qm (hin 0 50 (by kernel_rfl) (by kernel_rfl)) rfl;refine Qq 50 _ _ rfl #[Qd (Vi.vwC V)] (by simp [e0]) (cg50 _ _) ((Qa PM _).mono ?_);rintro e w3 ⟨rfl,hk3⟩;exact⟨_,rfl,_,rfl,Qi _ _ _ _ rfl,hk3,fun _ _ _ _ _=>trivial⟩
        | 2,ho,hsk=>
          obtain rfl:=Oj9 ho;have e0:a'.eval (.tmp 51)= .bool true:=Qm (hin 1 51 (by kernel_rfl) (by kernel_rfl)) rfl;exact o_not (.tmp 51) rfl true e0 (tE rfl)
        | 3,ho,hsk=>
          obtain rfl:=Oj9 ho;have e0:a'.eval (.tmp 52)= .bool false:=Qm (hin 2 52 (by kernel_rfl) (by kernel_rfl)) rfl;exact wp_move (.tmp 52) rfl _ e0 (tE rfl)
        | 4,ho,hsk=>
          obtain rfl:=Oj9 ho;exact Vi.o_fld26a (.tmp 4) rfl b3 ((hout 4 (by kernel_rfl)).trans rfl) (tE rfl)
        | 5,ho,hsk=>
          obtain rfl:=Oj9 ho;have e0:a'.eval (.tmp 54)= .pointer (some ⟨b3,0,none⟩):=Qm (hin 4 54 (by kernel_rfl) (by kernel_rfl)) rfl;exact Za (.tmp 54) rfl _ _ e0 (Qb (((Qa M).step hk2).at 2 _ rfl) 0 _ rfl) (tE rfl)
        | 6,ho,hsk=>
          obtain rfl:=Oj9 ho;have e0:a'.eval (.tmp 55)= .int .i64 V.nu:=Qm (hin 5 55 (by kernel_rfl) (by kernel_rfl)) rfl;exact o_eql20 (.tmp 55) rfl V.nu true (Qa HN) e0 (tE rfl)
        | 7,ho,hsk=>
          obtain rfl:=Oj9 ho;have e0:a'.eval (.tmp 53)= .bool false:=Qm (hin 3 53 (by kernel_rfl) (by kernel_rfl)) rfl;have e1:a'.eval (.tmp 56)= .bool true:=Qm (hin 6 56 (by kernel_rfl) (by kernel_rfl)) rfl;exact o_pickOr0 (.tmp 53) (.tmp 56) rfl _ e0 e1 (tE rfl)
        | 8,ho,hsk=>
          obtain rfl:=Oj9 ho;have e0:a'.eval (.tmp 57)= .bool true:=Qm (hin 7 57 (by kernel_rfl) (by kernel_rfl)) rfl;exact wp_move (.tmp 57) rfl _ e0 (tE rfl)
        | 9,ho,hsk=>
          cases hsk
        | 10,ho,hsk=>
          cases hsk
        | 11,ho,hsk=>
          cases hsk
        | 12,ho,hsk=>
          cases hsk
        | 13,ho,hsk=>
          obtain rfl:=Oj9 ho;have e0:a'.eval (.tmp 58)= .bool true:=Qm (hin 8 58 (by kernel_rfl) (by kernel_rfl)) rfl;exact o_pickOrT (.tmp 58) (.tmp 62) rfl e0 (tE rfl)
      intro w9 hk9;replace hk9:Kept [] wr w9:=⟨hk9.os,hk9.tape,hk9.output,hk9.size,hk9.block⟩;simp only [valsQ,List.map_cons,List.map_nil,Option.getD_some,Option.getD_none,List.take_succ_cons,List.take_zero,Qz,Act.put,List.setIfInBounds_toArray,List.set_cons_succ,List.set_cons_zero];refine wpAny_done (by kernel_rfl) ?_ _;replace M:=hide ((Qa M).step hk9);clear hk9;go_wp2_with (first |(refine QG (Vi.vwC Vi.zv) Vi.Zi rfl rfl ?_;refine Stp.go ?_))
      constructor
      go_wp2_with (first |(refine Qh Vi.Qn rfl (.tmp 2) (.tmp 64) rfl rfl b2 1 (Vi.vwC Vi.zv) rfl rfl rfl (Vi.Ql _) (Qa M) rfl rfl ?_;intro W71 N71;replace M:Hid (Mm [] w W71 [(b1,59,u8s s),(b2,29,Vi.vwC Vi.zv),(b3,29,Vi.vwC V)]):=hide N71;clear N71;refine Stp.go ?_))
      constructor
      go_wp2_with fail
      refine bodyPost_ret (res49 _ b2 (Vi.vwC Vi.zv) false _ rfl rfl rfl ((Qa M).at 1 _ rfl)) rfl ?_;exact⟨rfl,(Qa M).kept⟩
    · have PM:=hide (fun W=>Vi.rmay50 V W (Qa HV8));rw [hm] at PM;have HN:=hide hn;have PP:=hide hp;have HE:=hide he;have HQL:=hide hq;clear hp he hq;clear hm HCASE hn;go_wp2_with fail
      refine wp_region_any mixed (QW 14 rfl (by kernel_rfl) [some (Qd (Vi.vwC V)),some (.bool true),some (.bool false),some (.bool false),some (.pointer (some ⟨b3,0,none⟩)),some (.int .i64 V.nu),some (.bool false),some (.bool false),some (.bool false),some (Qd (Vi.vwC V)),some (Qd (u8s q)),some (Qd (u8s s)),some (.bool false),some (.bool false)] rfl (by kernel_rfl) (by kernel_rfl) ?_ ?_)
      · intro i o' hi hsk ho a' w2 hout hin hk2;replace hk2:Kept [] wr w2:=⟨hk2.os,hk2.tape,hk2.output,hk2.size,hk2.block⟩
        match i,ho,hsk with
        | 0,ho,hsk=>
          obtain rfl:=Oj9 ho;exact Qw Vi.Qn (.tmp 4) rfl b3 0 ((hout 4 (by kernel_rfl)).trans rfl) (Vi.vwC V) (Qa HVL) (((Qa M).step hk2).at 2 _ rfl).range (tE rfl)
        | 1,ho,hsk=>
          obtain rfl:=Oj9 ho;have e0:a'.eval (.tmp 50)=Qd (Vi.vwC V):=Qm (hin 0 50 (by kernel_rfl) (by kernel_rfl)) rfl;refine Qq 50 _ _ rfl #[Qd (Vi.vwC V)] (by simp [e0]) (cg50 _ _) ((Qa PM _).mono ?_);rintro e w3 ⟨rfl,hk3⟩;exact⟨_,rfl,_,rfl,Qi _ _ _ _ rfl,hk3,fun _ _ _ _ _=>trivial⟩
        | 2,ho,hsk=>
          obtain rfl:=Oj9 ho;have e0:a'.eval (.tmp 51)= .bool true:=Qm (hin 1 51 (by kernel_rfl) (by kernel_rfl)) rfl;exact o_not (.tmp 51) rfl true e0 (tE rfl)
        | 3,ho,hsk=>
          obtain rfl:=Oj9 ho;have e0:a'.eval (.tmp 52)= .bool false:=Qm (hin 2 52 (by kernel_rfl) (by kernel_rfl)) rfl;exact wp_move (.tmp 52) rfl _ e0 (tE rfl)
        | 4,ho,hsk=>
          obtain rfl:=Oj9 ho;exact Vi.o_fld26a (.tmp 4) rfl b3 ((hout 4 (by kernel_rfl)).trans rfl) (tE rfl)
        | 5,ho,hsk=>
          obtain rfl:=Oj9 ho;have e0:a'.eval (.tmp 54)= .pointer (some ⟨b3,0,none⟩):=Qm (hin 4 54 (by kernel_rfl) (by kernel_rfl)) rfl;exact Za (.tmp 54) rfl _ _ e0 (Qb (((Qa M).step hk2).at 2 _ rfl) 0 _ rfl) (tE rfl)
        | 6,ho,hsk=>
          obtain rfl:=Oj9 ho;have e0:a'.eval (.tmp 55)= .int .i64 V.nu:=Qm (hin 5 55 (by kernel_rfl) (by kernel_rfl)) rfl;exact o_eql20 (.tmp 55) rfl V.nu false (Qa HN) e0 (tE rfl)
        | 7,ho,hsk=>
          obtain rfl:=Oj9 ho;have e0:a'.eval (.tmp 53)= .bool false:=Qm (hin 3 53 (by kernel_rfl) (by kernel_rfl)) rfl;have e1:a'.eval (.tmp 56)= .bool false:=Qm (hin 6 56 (by kernel_rfl) (by kernel_rfl)) rfl;exact o_pickOr0 (.tmp 53) (.tmp 56) rfl _ e0 e1 (tE rfl)
        | 8,ho,hsk=>
          obtain rfl:=Oj9 ho;have e0:a'.eval (.tmp 57)= .bool false:=Qm (hin 7 57 (by kernel_rfl) (by kernel_rfl)) rfl;exact wp_move (.tmp 57) rfl _ e0 (tE rfl)
        | 9,ho,hsk=>
          obtain rfl:=Oj9 ho;exact Qw Vi.Qn (.tmp 4) rfl b3 0 ((hout 4 (by kernel_rfl)).trans rfl) (Vi.vwC V) (Qa HVL) (((Qa M).step hk2).at 2 _ rfl).range (tE rfl)
        | 10,ho,hsk=>
          obtain rfl:=Oj9 ho;have e0:a'.eval (.tmp 59)=Qd (Vi.vwC V):=Qm (hin 9 59 (by kernel_rfl) (by kernel_rfl)) rfl;refine Qq 113 _ _ rfl #[Qd (Vi.vwC V)] (by simp [e0]) (cg113 _ _) ((Qa PP _).mono ?_);rintro e w3 ⟨rfl,hk3⟩;exact⟨_,rfl,_,rfl,Qi _ _ _ _ rfl,hk3,fun _ _ _ _ _=>trivial⟩
        | 11,ho,hsk=>
          obtain rfl:=Oj9 ho;exact Qw Vi.Zc (.tmp 1) rfl b1 0 ((hout 1 (by kernel_rfl)).trans rfl) (u8s s) (by rw [Qy];exact Qa HSL) (((Qa M).step hk2).at 0 _ rfl).range (tE rfl)
        | 12,ho,hsk=>
          obtain rfl:=Oj9 ho;have e0:a'.eval (.tmp 60)=Qd (u8s q):=Qm (hin 10 60 (by kernel_rfl) (by kernel_rfl)) rfl;have e1:a'.eval (.tmp 61)=Qd (u8s s):=Qm (hin 11 61 (by kernel_rfl) (by kernel_rfl)) rfl;exact Le.o_neqA 59 59 Vi.guard28 (.tmp 60) (.tmp 61) rfl (u8s q) (u8s s) e0 e1 true ((Vi.equal28 _ q s (Qa HQL) (Qa HSL)).trans (by rw [Qa HE])) (tE rfl)
        | 13,ho,hsk=>
          obtain rfl:=Oj9 ho;have e0:a'.eval (.tmp 58)= .bool false:=Qm (hin 8 58 (by kernel_rfl) (by kernel_rfl)) rfl;have e1:a'.eval (.tmp 62)= .bool false:=Qm (hin 12 62 (by kernel_rfl) (by kernel_rfl)) rfl;exact o_pickOr0 (.tmp 58) (.tmp 62) rfl _ e0 e1 (tE rfl)
      intro w9 hk9;replace hk9:Kept [] wr w9:=⟨hk9.os,hk9.tape,hk9.output,hk9.size,hk9.block⟩;simp only [valsQ,List.map_cons,List.map_nil,Option.getD_some,List.take_succ_cons,List.take_zero,Qz,Act.put,List.setIfInBounds_toArray,List.set_cons_succ,List.set_cons_zero];refine wpAny_done (by kernel_rfl) ?_ _;replace M:=hide ((Qa M).step hk9);clear hk9;go_wp2_with (first |(refine Qg Vi.Qn rfl (.tmp 4) rfl b3 0 rfl (Vi.vwC V) (Qa HVL) ((Qa M).at 2 _ rfl).range ?_;refine Stp.go ?_))
      constructor
      go_wp2_with (first |(refine Qh Vi.Qn rfl (.tmp 2) (.tmp 65) rfl rfl b2 1 (Vi.vwC V) rfl rfl (Qa HVL) (Vi.Ql _) (Qa M) rfl rfl ?_;intro W71 N71;replace M:Hid (Mm [] w W71 [(b1,59,u8s s),(b2,29,Vi.vwC V),(b3,29,Vi.vwC V)]):=hide N71;clear N71;refine Stp.go ?_))
      constructor
      go_wp2_with fail
      refine bodyPost_ret (res49 _ b2 (Vi.vwC V) true _ rfl rfl (Qa HVL) ((Qa M).at 1 _ rfl)) rfl ?_;exact⟨rfl,(Qa M).kept⟩
    · have PM:=hide (fun W=>Vi.rmay50 V W (Qa HV8));rw [hm] at PM;have HN:=hide hn;have PP:=hide hp;have HE:=hide he;have HQL:=hide hq;clear hp he hq;clear hm HCASE hn;go_wp2_with fail
      refine wp_region_any mixed (QW 14 rfl (by kernel_rfl) [some (Qd (Vi.vwC V)),some (.bool true),some (.bool false),some (.bool false),some (.pointer (some ⟨b3,0,none⟩)),some (.int .i64 V.nu),some (.bool false),some (.bool false),some (.bool false),some (Qd (Vi.vwC V)),some (Qd (u8s q)),some (Qd (u8s s)),some (.bool true),some (.bool true)] rfl (by kernel_rfl) (by kernel_rfl) ?_ ?_)
      · intro i o' hi hsk ho a' w2 hout hin hk2;replace hk2:Kept [] wr w2:=⟨hk2.os,hk2.tape,hk2.output,hk2.size,hk2.block⟩
        match i,ho,hsk with
        | 0,ho,hsk=>
          obtain rfl:=Oj9 ho;exact Qw Vi.Qn (.tmp 4) rfl b3 0 ((hout 4 (by kernel_rfl)).trans rfl) (Vi.vwC V) (Qa HVL) (((Qa M).step hk2).at 2 _ rfl).range (tE rfl)
        | 1,ho,hsk=>
          obtain rfl:=Oj9 ho;have e0:a'.eval (.tmp 50)=Qd (Vi.vwC V):=Qm (hin 0 50 (by kernel_rfl) (by kernel_rfl)) rfl;refine Qq 50 _ _ rfl #[Qd (Vi.vwC V)] (by simp [e0]) (cg50 _ _) ((Qa PM _).mono ?_);rintro e w3 ⟨rfl,hk3⟩;exact⟨_,rfl,_,rfl,Qi _ _ _ _ rfl,hk3,fun _ _ _ _ _=>trivial⟩
        | 2,ho,hsk=>
          obtain rfl:=Oj9 ho;have e0:a'.eval (.tmp 51)= .bool true:=Qm (hin 1 51 (by kernel_rfl) (by kernel_rfl)) rfl;exact o_not (.tmp 51) rfl true e0 (tE rfl)
        | 3,ho,hsk=>
          obtain rfl:=Oj9 ho;have e0:a'.eval (.tmp 52)= .bool false:=Qm (hin 2 52 (by kernel_rfl) (by kernel_rfl)) rfl;exact wp_move (.tmp 52) rfl _ e0 (tE rfl)
        | 4,ho,hsk=>
          obtain rfl:=Oj9 ho;exact Vi.o_fld26a (.tmp 4) rfl b3 ((hout 4 (by kernel_rfl)).trans rfl) (tE rfl)
        | 5,ho,hsk=>
          obtain rfl:=Oj9 ho;have e0:a'.eval (.tmp 54)= .pointer (some ⟨b3,0,none⟩):=Qm (hin 4 54 (by kernel_rfl) (by kernel_rfl)) rfl;exact Za (.tmp 54) rfl _ _ e0 (Qb (((Qa M).step hk2).at 2 _ rfl) 0 _ rfl) (tE rfl)
        | 6,ho,hsk=>
          obtain rfl:=Oj9 ho;have e0:a'.eval (.tmp 55)= .int .i64 V.nu:=Qm (hin 5 55 (by kernel_rfl) (by kernel_rfl)) rfl;exact o_eql20 (.tmp 55) rfl V.nu false (Qa HN) e0 (tE rfl)
        | 7,ho,hsk=>
          obtain rfl:=Oj9 ho;have e0:a'.eval (.tmp 53)= .bool false:=Qm (hin 3 53 (by kernel_rfl) (by kernel_rfl)) rfl;have e1:a'.eval (.tmp 56)= .bool false:=Qm (hin 6 56 (by kernel_rfl) (by kernel_rfl)) rfl;exact o_pickOr0 (.tmp 53) (.tmp 56) rfl _ e0 e1 (tE rfl)
        | 8,ho,hsk=>
          obtain rfl:=Oj9 ho;have e0:a'.eval (.tmp 57)= .bool false:=Qm (hin 7 57 (by kernel_rfl) (by kernel_rfl)) rfl;exact wp_move (.tmp 57) rfl _ e0 (tE rfl)
        | 9,ho,hsk=>
          obtain rfl:=Oj9 ho;exact Qw Vi.Qn (.tmp 4) rfl b3 0 ((hout 4 (by kernel_rfl)).trans rfl) (Vi.vwC V) (Qa HVL) (((Qa M).step hk2).at 2 _ rfl).range (tE rfl)
        | 10,ho,hsk=>
          obtain rfl:=Oj9 ho;have e0:a'.eval (.tmp 59)=Qd (Vi.vwC V):=Qm (hin 9 59 (by kernel_rfl) (by kernel_rfl)) rfl;refine Qq 113 _ _ rfl #[Qd (Vi.vwC V)] (by simp [e0]) (cg113 _ _) ((Qa PP _).mono ?_);rintro e w3 ⟨rfl,hk3⟩;exact⟨_,rfl,_,rfl,Qi _ _ _ _ rfl,hk3,fun _ _ _ _ _=>trivial⟩
        | 11,ho,hsk=>
          obtain rfl:=Oj9 ho;exact Qw Vi.Zc (.tmp 1) rfl b1 0 ((hout 1 (by kernel_rfl)).trans rfl) (u8s s) (by rw [Qy];exact Qa HSL) (((Qa M).step hk2).at 0 _ rfl).range (tE rfl)
        | 12,ho,hsk=>
          obtain rfl:=Oj9 ho;have e0:a'.eval (.tmp 60)=Qd (u8s q):=Qm (hin 10 60 (by kernel_rfl) (by kernel_rfl)) rfl;have e1:a'.eval (.tmp 61)=Qd (u8s s):=Qm (hin 11 61 (by kernel_rfl) (by kernel_rfl)) rfl;exact Le.o_neqA 59 59 Vi.guard28 (.tmp 60) (.tmp 61) rfl (u8s q) (u8s s) e0 e1 false ((Vi.equal28 _ q s (Qa HQL) (Qa HSL)).trans (by rw [Qa HE])) (tE rfl)
        | 13,ho,hsk=>
          obtain rfl:=Oj9 ho;have e0:a'.eval (.tmp 58)= .bool false:=Qm (hin 8 58 (by kernel_rfl) (by kernel_rfl)) rfl;have e1:a'.eval (.tmp 62)= .bool true:=Qm (hin 12 62 (by kernel_rfl) (by kernel_rfl)) rfl;exact o_pickOr0 (.tmp 58) (.tmp 62) rfl _ e0 e1 (tE rfl)
      intro w9 hk9;replace hk9:Kept [] wr w9:=⟨hk9.os,hk9.tape,hk9.output,hk9.size,hk9.block⟩;simp only [valsQ,List.map_cons,List.map_nil,Option.getD_some,List.take_succ_cons,List.take_zero,Qz,Act.put,List.setIfInBounds_toArray,List.set_cons_succ,List.set_cons_zero];refine wpAny_done (by kernel_rfl) ?_ _;replace M:=hide ((Qa M).step hk9);clear hk9;go_wp2_with (first |(refine QG (Vi.vwC Vi.zv) Vi.Zi rfl rfl ?_;refine Stp.go ?_))
      constructor
      go_wp2_with (first |(refine Qh Vi.Qn rfl (.tmp 2) (.tmp 64) rfl rfl b2 1 (Vi.vwC Vi.zv) rfl rfl rfl (Vi.Ql _) (Qa M) rfl rfl ?_;intro W71 N71;replace M:Hid (Mm [] w W71 [(b1,59,u8s s),(b2,29,Vi.vwC Vi.zv),(b3,29,Vi.vwC V)]):=hide N71;clear N71;refine Stp.go ?_))
      constructor
      go_wp2_with fail
      refine bodyPost_ret (res49 _ b2 (Vi.vwC Vi.zv) false _ rfl rfl rfl ((Qa M).at 1 _ rfl)) rfl ?_;exact⟨rfl,(Qa M).kept⟩
theorem byts_same {n:Nat} {s:List Int} (h:Vi.Byts n s):Le.Byts n s:=⟨h.len,h.byte⟩
theorem rget49 (s:List Int) (w:World) (hs:Vi.Byts 64 s):Calls Tryz.prog 49 #[Qd (u8s s)] w fun x w'=>x= .returned (.tuple #[Qd (Vi.vwC (Vi.getV s).1),.bool (decide ((Vi.getV s).2=0))])∧Kept [] w w':=by
 unfold Vi.getV;by_cases hz:s=Vi.zs 64
 · rw [if_pos hz];exact gv_z s w hs.len (by simpa using hz)
 rw [if_neg hz];have hs':=byts_same hs;have hzd:decide (s=Vi.zs 64)=false:=by simpa using hz
 have hbyte:∀i,i<64→0≤s.getD i 0∧s.getD i 0<256:=fun i hi=>hs.byte _ (by rw [List.getD_eq_getElem?_getD,List.getElem?_eq_getElem (by rw [hs.len];exact hi)];exact List.getElem_mem _);have A:=fun i hi=>hide (Le.u8_at hs.len i hi);have hV:(⟨Le.ofB 0 ((s.drop 4).take 8),decide (s.getD 1 0=1),s.getD 2 0,(List.range 8).map (Vi.ZG s)⟩:Vi.Vw)=Vi.ZH s:=by unfold Vi.ZH;rw [ofB_same]
 have hme:∀i,Vi.ZG s i=(decide (s.getD 3 0/2^i%2=1),Le.ofB 0 ((s.drop (12+4*i)).take 4)):=fun i=>by unfold Vi.ZG;rw [ofB_same]
 have hno:(Vi.ZH s).may=false→¬Vi.Zr (Vi.ZH s)=(s,0):=fun hm=>by unfold Vi.Zr;rw [if_pos hm];intro h;have:=congrArg Prod.snd h;simp at this
 by_cases hx4:64<s.getD 4 0
 · have hm:(Vi.ZH s).may=false:=by
     have h9:=Le.ofB_big hs' 4 (by omega) hx4;rw [← hV];unfold Vi.Vw.may;simp only;rw [if_neg (by omega),decide_eq_false (by omega),Bool.false_and]
   rw [if_neg (hno hm)];exact gv_big s w hs' hzd _ _ _ _ (A 1 (by omega)) (A 2 (by omega)) (A 3 (by omega)) (A 4 (by omega)) _ rfl (hbyte 2 (by omega)) (decide_eq_true hx4)
 have h4:=decide_eq_false hx4;cases hm:(Vi.ZH s).may with
 | false=>
   rw [if_neg (hno hm)];exact gv_all s w hs' hzd _ _ _ _ (A 1 (by omega)) (A 2 (by omega)) (A 3 (by omega)) (A 4 (by omega)) _ rfl (hbyte 2 (by omega)) h4 (hbyte 3 (by omega)) _ hV hme _ _ (Or.inl ⟨hm,rfl,rfl⟩)
 | true=>
   have h0:(Vi.Zr (Vi.ZH s)).2=0:=by unfold Vi.Zr;rw [if_neg (by rw [hm];simp)];split <;> rfl
   by_cases hn:(Vi.ZH s).nu=0
   · have hf:Vi.ZH s=Vi.fv:=by have h9:=hm;unfold Vi.Vw.may at h9;rw [if_pos hn] at h9;exact of_decide_eq_true h9
     rw [if_neg (fun h=>hz (by have h9:=congrArg Prod.fst h;rw [hf] at h9;exact h9.symm.trans (by kernel_rfl)))];exact gv_all s w hs' hzd _ _ _ _ (A 1 (by omega)) (A 2 (by omega)) (A 3 (by omega)) (A 4 (by omega)) _ rfl (hbyte 2 (by omega)) h4 (hbyte 3 (by omega)) _ hV hme _ _ (Or.inr (Or.inl ⟨hm,decide_eq_true hn,rfl,rfl⟩))
   · have hp:=fun W=>rput113 (Vi.ZH s) W (Vi.viewV_ok hs) hm;have hl:=Vi.putV_len (Vi.ZH s) (Vi.viewV_ok hs).len;by_cases he:(Vi.Zr (Vi.ZH s)).1=s
     · rw [if_pos (Prod.ext he h0)];exact gv_all s w hs' hzd _ _ _ _ (A 1 (by omega)) (A 2 (by omega)) (A 3 (by omega)) (A 4 (by omega)) _ rfl (hbyte 2 (by omega)) h4 (hbyte 3 (by omega)) _ hV hme _ _ (Or.inr (Or.inr (Or.inl ⟨_,hm,decide_eq_false hn,hl,hp,decide_eq_true he,rfl,rfl⟩)))
     · rw [if_neg (fun h=>he (by rw [h]))];exact gv_all s w hs' hzd _ _ _ _ (A 1 (by omega)) (A 2 (by omega)) (A 3 (by omega)) (A 4 (by omega)) _ rfl (hbyte 2 (by omega)) h4 (hbyte 3 (by omega)) _ hV hme _ _ (Or.inr (Or.inr (Or.inr ⟨_,hm,decide_eq_false hn,hl,hp,decide_eq_false he,rfl,rfl⟩)))
open Go.RowKit
open Le (Mm Qh Qo)
theorem res14 (w:World) (z:Nat) (vs:List Value) (e:Int) (tmps:Array Value) (h4:tmps[4]?.getD undef=P0 z) (h5:tmps[5]?.getD undef= .int .i64 e) (hl:vs.length=19) (hb:Blk w z 29 vs):(results Tryz.f14 tmps).run Tryz.prog w= .ok (.tuple #[Qd vs,.int .i64 e]) w:=by
 have:=Zq Vi.Qn hl hb;simp [results,Tryz.results14,h4,h5,this,asAddr]
theorem res42 (w:World) (z:Nat) (vs:List Value) (e:Int) (tmps:Array Value) (h4:tmps[6]?.getD undef=P0 z) (h5:tmps[7]?.getD undef= .int .i64 e) (hl:vs.length=3) (hb:Blk w z 73 vs):(results Tryz.f42 tmps).run Tryz.prog w= .ok (.tuple #[Qd vs,.int .i64 e]) w:=by
 have:=Zq Le.QC hl hb;simp [results,Tryz.results42,h4,h5,this,asAddr]
theorem getV_two (s:List Int):(Vi.getV s).2=0∨Vi.getV s=(Vi.zv,12):=by
 unfold Vi.getV;split
 · exact Or.inl rfl
 · split
   · exact Or.inl rfl
   · exact Or.inr rfl
theorem getL_two (s:List Int):(Le.getL s).2=0∨Le.getL s=(Le.le0,12):=by
 unfold Le.getL;split
 · exact Or.inl rfl
 · exact Or.inr rfl
theorem read0 {D:Dv.Dev} (h:D.Ok):(D.read 0).1=D.S.getD 0 Dv.nought:=by
 unfold Dv.Dev.read;rw [if_pos (by have:=h.s0;simp [Dv.hasS];omega)];rfl
theorem read_sec {D:Dv.Dev} (h:D.Ok) (x:Int):Dv.Sec (D.read x).1:=by
 unfold Dv.Dev.read;split
 · rw [List.getD_eq_getElem?_getD];cases hq:D.S[x.toNat]? with
   | none=>exact Dv.Zt
   | some s=>exact h.sec s (List.mem_of_getElem? hq)
 · exact Dv.Zt
set_option linter.unusedVariables false in
theorem rview_y_F:(∀(r sg eg:Nat) (D:Dv.Dev) (J:Ar.Job) (w:World) (h:Dv.Rv w r sg eg D) (V:Vi.Vw) (e:Int) (hV:Vi.getV (D.S.getD 0 Dv.nought)=(V,e)) (he:decide (e=0)=true),Calls Tryz.prog 14 #[P0 r,Qd (Ar.Qf J)] w fun x w'=>x= .returned (.tuple #[Qd (Vi.vwC V),.int .i64 0])∧Kept [] w w')∧(∀(r sg eg:Nat) (D:Dv.Dev) (J:Ar.Job) (w:World) (h:Dv.Rv w r sg eg D) (V:Vi.Vw) (e:Int) (hV:Vi.getV (D.S.getD 0 Dv.nought)=(V,e)) (he:decide (e=0)=false),Calls Tryz.prog 14 #[P0 r,Qd (Ar.Qf J)] w fun x w'=>x= .returned (.tuple #[Qd (Vi.vwC Vi.zv),.int .i64 12])∧Kept [] w w'):=by
 refine⟨fun r sg eg D J w h V e hV he=> ?_,fun r sg eg D J w h V e hV he=> ?_⟩;have PR:=hide (fun W (hk:Kept [] w W)=>Dv.r_read r sg eg D 0 W (h.kept hk (by simp) (by simp) (by simp)));have h0:=read0 h.ok;have hsec:=read_sec h.ok 0;rw [h0] at PR hsec;obtain⟨q,hq⟩:∃q,q=(D.read 0).2:=⟨_,rfl⟩;rw [← hq] at PR;obtain⟨s,hs⟩:∃s,s=D.S.getD 0 Dv.nought:=⟨_,rfl⟩;rw [← hs] at PR hsec hV;have HSL:Hid ((u8s s).length=64):=by show _=_;rw [Qy];exact hsec.1
 have hby:Vi.Byts 64 s:=⟨hsec.1,hsec.2⟩;have PG:=hide (fun W=>rget49 s W hby);have hvl:=(getV_ok s hby).len;rw [hV] at PG hvl;simp only [he] at PG;have HVL:Hid ((Vi.vwC V).length=19):=Vi.Qk hvl;clear hq hs hsec hV hby hvl h0 h
 rotate_left
 have PR:=hide (fun W (hk:Kept [] w W)=>Dv.r_read r sg eg D 0 W (h.kept hk (by simp) (by simp) (by simp)));have h0:=read0 h.ok;have hsec:=read_sec h.ok 0;rw [h0] at PR hsec;obtain⟨q,hq⟩:∃q,q=(D.read 0).2:=⟨_,rfl⟩;rw [← hq] at PR;obtain⟨s,hs⟩:∃s,s=D.S.getD 0 Dv.nought:=⟨_,rfl⟩;rw [← hs] at PR hsec hV;have HSL:Hid ((u8s s).length=64):=by show _=_;rw [Qy];exact hsec.1
 have hby:Vi.Byts 64 s:=⟨hsec.1,hsec.2⟩;have PG:=hide (fun W=>rget49 s W hby);have hvl:=(getV_ok s hby).len;rw [hV] at PG hvl;simp only [he] at PG;have HVL:Hid ((Vi.vwC V).length=19):=Vi.Qk hvl;clear hq hs hsec hV hby hvl h0 h
 rotate_left
 all_goals
   go_enter Tryz.func14,Tryz.ntmps14
   have M:Hid (Mm [] w w []):=hide Mm.init;go_wp2_with (first |(refine Qp rfl (.tmp 1) rfl (Ar.Qf J) rfl ?_;intro W1 b1 e1 B1 K1;replace M:=hide ((Qa M).new e1 B1 K1);clear e1 B1 K1;refine Stp.go ?_))
   constructor
   go_wp2_with (first |(refine Qv (Vi.vwC Vi.zv) Vi.QE 4 rfl rfl rfl ?_;intro W2 b2 e2 B2 K2;replace M:=hide ((Qa M).new e2 B2 K2);clear e2 B2 K2;refine Stp.go ?_))
   constructor
   go_wp2_with (first |(go_at_call 48;refine(Qa PR _ (Qa M).kept).mono ?_;rintro e W3 ⟨rfl,K3⟩;replace M:=hide ((Qa M).step K3);clear K3;refine Stp.go ?_))
   constructor
   go_wp2_with (first |(refine QM Vi.Zc (u8s (Vi.zs 64)) (Vi.zl 64) Vi.ZI 6 rfl rfl rfl (.tmp 13) rfl rfl rfl (u8s s) (Qa HSL) (QU _) (by kernel_rfl) (by kernel_rfl) ?_;intro W4 b4 e4 B4 K4;replace M:=hide ((Qa M).new e4 B4 K4);clear e4 B4 K4;refine Stp.go ?_))
   constructor
   go_wp2_with (first |(refine Qg Vi.Zc rfl (.tmp 6) rfl b4 0 rfl (u8s s) (Qa HSL) ((Qa M).at 2 _ rfl).range ?_;refine Stp.go ?_))
   constructor
   go_wp2_with (first |(go_at_call 49;refine(Qa PG _).mono ?_;rintro e W5 ⟨rfl,K5⟩;replace M:=hide ((Qa M).step K5);clear K5;refine Stp.go ?_))
   constructor
   go_wp2_with (first |(refine QM Vi.Qn (Vi.vwC Vi.zv) rfl Vi.QE 8 rfl rfl rfl (.tmp 18) rfl rfl rfl (Vi.vwC V) (Qa HVL) (Vi.Ql _) (by kernel_rfl) (by kernel_rfl) ?_;intro W6 b6 e6 B6 K6;replace M:=hide ((Qa M).new e6 B6 K6);clear e6 B6 K6;refine Stp.go ?_))
   constructor
 · go_wp2_with (first |(refine Qg Vi.Qn rfl (.tmp 8) rfl b6 0 rfl (Vi.vwC V) (Qa HVL) ((Qa M).at 3 _ rfl).range ?_;refine Stp.go ?_))
   constructor
   go_wp2_with (first |(refine Qh Vi.Qn rfl (.tmp 4) (.tmp 23) rfl rfl b2 1 (Vi.vwC V) rfl rfl (Qa HVL) (Vi.Ql _) (Qa M) rfl rfl ?_;intro W7 N7;replace M:Hid (Mm [] w W7 [(b1,23,Ar.Qf J),(b2,29,Vi.vwC V),(b4,59,u8s s),(b6,29,Vi.vwC V)]):=hide N7;clear N7;refine Stp.go ?_))
   constructor
   go_wp2_with fail
   refine bodyPost_ret (res14 _ b2 (Vi.vwC V) 0 _ rfl rfl (Qa HVL) ((Qa M).at 1 _ rfl)) rfl ?_;exact⟨rfl,(Qa M).kept⟩
 go_wp2_with (first |(refine QG (Vi.vwC Vi.zv) Vi.Zi rfl rfl ?_;refine Stp.go ?_))
 constructor
 go_wp2_with (first |(refine Qh Vi.Qn rfl (.tmp 4) (.tmp 22) rfl rfl b2 1 (Vi.vwC Vi.zv) rfl rfl rfl (Vi.Ql _) (Qa M) rfl rfl ?_;intro W7 N7;replace M:Hid (Mm [] w W7 [(b1,23,Ar.Qf J),(b2,29,Vi.vwC Vi.zv),(b4,59,u8s s),(b6,29,Vi.vwC V)]):=hide N7;clear N7;refine Stp.go ?_))
 constructor
 go_wp2_with fail
 refine bodyPost_ret (res14 _ b2 (Vi.vwC Vi.zv) 12 _ rfl rfl rfl ((Qa M).at 1 _ rfl)) rfl ?_;exact⟨rfl,(Qa M).kept⟩
theorem rview14 (r sg eg:Nat) (D:Dv.Dev) (J:Ar.Job) (w:World) (h:Dv.Rv w r sg eg D):Calls Tryz.prog 14 #[P0 r,Qd (Ar.Qf J)] w fun x w'=>x= .returned (.tuple #[Qd (Vi.vwC (oV D).1),.int .i64 (oV D).2])∧Kept [] w w':=by
 unfold oV;rcases getV_two (D.S.getD 0 Dv.nought) with h0 | h0
 · rw [h0];exact rview_y_F.1 r sg eg D J w h _ _ rfl (decide_eq_true h0)
 · rw [h0];exact rview_y_F.2 r sg eg D J w h _ _ h0 rfl
def rlease (D:Dv.Dev) (J:Ar.Job) (n:Int):Le.Le×Int:=if n<0∨J.n≤n then (Le.le0,2) else Le.getL (D.read (1+n)).1
set_option linter.unusedVariables false in
theorem rlease_a_F:(∀(r:Nat) (J:Ar.Job) (n:Int) (w:World) (hd:decide (n<0)=true),Calls Tryz.prog 42 #[P0 r,Qd (Ar.Qf J),.int .i64 n] w fun x w'=>x= .returned (.tuple #[Qd (Le.Le.C Le.le0),.int .i64 2])∧Kept [] w w')∧(∀(r:Nat) (J:Ar.Job) (n:Int) (w:World) (hd:decide (n<0)=false) (hd2:decide (J.n≤n)=true),Calls Tryz.prog 42 #[P0 r,Qd (Ar.Qf J),.int .i64 n] w fun x w'=>x= .returned (.tuple #[Qd (Le.Le.C Le.le0),.int .i64 2])∧Kept [] w w')∧(∀(r sg eg:Nat) (D:Dv.Dev) (J:Ar.Job) (n:Int) (w:World) (h:Dv.Rv w r sg eg D) (V:Le.Le) (e:Int) (hV:Le.getL (D.read (1+n)).1=(V,e)) (he:decide (e=0)=true) (hd:decide (n<0)=false) (hd2:decide (J.n≤n)=false) (hn8:n≤8),Calls Tryz.prog 42 #[P0 r,Qd (Ar.Qf J),.int .i64 n] w fun x w'=>x= .returned (.tuple #[Qd (Le.Le.C V),.int .i64 0])∧Kept [] w w')∧(∀(r sg eg:Nat) (D:Dv.Dev) (J:Ar.Job) (n:Int) (w:World) (h:Dv.Rv w r sg eg D) (V:Le.Le) (e:Int) (hV:Le.getL (D.read (1+n)).1=(V,e)) (he:decide (e=0)=false) (hd:decide (n<0)=false) (hd2:decide (J.n≤n)=false) (hn8:n≤8),Calls Tryz.prog 42 #[P0 r,Qd (Ar.Qf J),.int .i64 n] w fun x w'=>x= .returned (.tuple #[Qd (Le.Le.C Le.le0),.int .i64 12])∧Kept [] w w'):=by
 refine⟨fun r J n w hd=> ?_,fun r J n w hd hd2=> ?_,fun r sg eg D J n w h V e hV he hd hd2 hn8=> ?_,fun r sg eg D J n w h V e hV he hd hd2 hn8=> ?_⟩
 rotate_left
 rotate_left
 have hn0:0≤n:=by have:=of_decide_eq_false hd;omega
 have PR:=hide (fun W (hk:Kept [] w W)=>Dv.r_read r sg eg D (1+n) W (h.kept hk (by simp) (by simp) (by simp)));have hsec:=read_sec h.ok (1+n);obtain⟨q,hq⟩:∃q,q=(D.read (1+n)).2:=⟨_,rfl⟩;rw [← hq] at PR;obtain⟨s,hs⟩:∃s,s=(D.read (1+n)).1:=⟨_,rfl⟩;rw [← hs] at PR hsec hV;have HSL:Hid ((u8s s).length=64):=by show _=_;rw [Qy];exact hsec.1
 have PG:=hide (fun W=>Le.rget102 s W ⟨hsec.1,hsec.2⟩);rw [hV] at PG;simp only [he] at PG;clear hq hs hsec hV h
 rotate_left
 have hn0:0≤n:=by have:=of_decide_eq_false hd;omega
 have PR:=hide (fun W (hk:Kept [] w W)=>Dv.r_read r sg eg D (1+n) W (h.kept hk (by simp) (by simp) (by simp)));have hsec:=read_sec h.ok (1+n);obtain⟨q,hq⟩:∃q,q=(D.read (1+n)).2:=⟨_,rfl⟩;rw [← hq] at PR;obtain⟨s,hs⟩:∃s,s=(D.read (1+n)).1:=⟨_,rfl⟩;rw [← hs] at PR hsec hV;have HSL:Hid ((u8s s).length=64):=by show _=_;rw [Qy];exact hsec.1
 have PG:=hide (fun W=>Le.rget102 s W ⟨hsec.1,hsec.2⟩);rw [hV] at PG;simp only [he] at PG;clear hq hs hsec hV h
 rotate_left
 all_goals
   go_enter Tryz.func42,Tryz.ntmps42
   have M:Hid (Mm [] w w []):=hide Mm.init;go_wp2_with (first |(refine Qp rfl (.tmp 1) rfl (Ar.Qf J) rfl ?_;intro W1 b1 e1 B1 K1;replace M:=hide ((Qa M).new e1 B1 K1);clear e1 B1 K1;refine Stp.go ?_))
   constructor
   go_wp2_with (first |(refine Qv (Le.Le.C Le.le0) Le.QT 6 rfl rfl rfl ?_;intro W2 b2 e2 B2 K2;replace M:=hide ((Qa M).new e2 B2 K2);clear e2 B2 K2;have f0:=Qb ((Qa M).at 0 _ rfl) 0 (.int .i64 J.n) rfl;refine Stp.go ?_))
   constructor
 · go_wp2_with (first |(refine QG (T:=73) (Le.Le.C Le.le0) Le.build23 rfl rfl ?_;refine Stp.go ?_))
   constructor
   go_wp2_with (first |(refine Qh Le.QC rfl (.tmp 6) (.tmp 20) rfl rfl b2 1 (Le.Le.C Le.le0) rfl rfl rfl (Le.QV _) (Qa M) rfl rfl ?_;intro W3 N3;replace M:Hid (Mm [] w W3 [(b1,23,Ar.Qf J),(b2,73,Le.Le.C Le.le0)]):=hide N3;clear N3;refine Stp.go ?_))
   constructor
   go_wp2_with fail
   refine bodyPost_ret (res42 _ b2 (Le.Le.C Le.le0) 2 _ rfl rfl rfl ((Qa M).at 1 _ rfl)) rfl ?_;exact⟨rfl,(Qa M).kept⟩
 · go_wp2_with (first |(refine QG (T:=73) (Le.Le.C Le.le0) Le.build23 rfl rfl ?_;refine Stp.go ?_))
   constructor
   go_wp2_with (first |(refine Qh Le.QC rfl (.tmp 6) (.tmp 20) rfl rfl b2 1 (Le.Le.C Le.le0) rfl rfl rfl (Le.QV _) (Qa M) rfl rfl ?_;intro W3 N3;replace M:Hid (Mm [] w W3 [(b1,23,Ar.Qf J),(b2,73,Le.Le.C Le.le0)]):=hide N3;clear N3;refine Stp.go ?_))
   constructor
   go_wp2_with fail
   refine bodyPost_ret (res42 _ b2 (Le.Le.C Le.le0) 2 _ rfl rfl rfl ((Qa M).at 1 _ rfl)) rfl ?_;exact⟨rfl,(Qa M).kept⟩
 all_goals
   go_wp2_with (first |(go_at_call 48;refine(Qa PR _ (Qa M).kept).mono ?_;rintro e W3 ⟨rfl,K3⟩;replace M:=hide ((Qa M).step K3);clear K3;clear f0;refine Stp.go ?_))
   constructor
   go_wp2_with (first |(refine QM Vi.Zc (u8s (Vi.zs 64)) (Vi.zl 64) Vi.ZI 8 rfl rfl rfl (.tmp 26) rfl rfl rfl (u8s s) (Qa HSL) (QU _) (by kernel_rfl) (by kernel_rfl) ?_;intro W4 b4 e4 B4 K4;replace M:=hide ((Qa M).new e4 B4 K4);clear e4 B4 K4;refine Stp.go ?_))
   constructor
   go_wp2_with (first |(refine Qg Vi.Zc rfl (.tmp 8) rfl b4 0 rfl (u8s s) (Qa HSL) ((Qa M).at 2 _ rfl).range ?_;refine Stp.go ?_))
   constructor
   go_wp2_with (first |(go_at_call 102;refine(Qa PG _).mono ?_;rintro e W5 ⟨rfl,K5⟩;replace M:=hide ((Qa M).step K5);clear K5;refine Stp.go ?_))
   constructor
   go_wp2_with (first |(refine QM Le.QC (Le.Le.C Le.le0) rfl Le.QT 10 rfl rfl rfl (.tmp 31) rfl rfl rfl (Le.Le.C V) rfl (Le.QV _) (by kernel_rfl) (by kernel_rfl) ?_;intro W6 b6 e6 B6 K6;replace M:=hide ((Qa M).new e6 B6 K6);clear e6 B6 K6;refine Stp.go ?_))
   constructor
 · go_wp2_with (first |(refine Qg Le.QC rfl (.tmp 10) rfl b6 0 rfl (Le.Le.C V) rfl ((Qa M).at 3 _ rfl).range ?_;refine Stp.go ?_))
   constructor
   go_wp2_with (first |(refine Qh Le.QC rfl (.tmp 6) (.tmp 36) rfl rfl b2 1 (Le.Le.C V) rfl rfl rfl (Le.QV _) (Qa M) rfl rfl ?_;intro W7 N7;replace M:Hid (Mm [] w W7 [(b1,23,Ar.Qf J),(b2,73,Le.Le.C V),(b4,59,u8s s),(b6,73,Le.Le.C V)]):=hide N7;clear N7;refine Stp.go ?_))
   constructor
   go_wp2_with fail
   refine bodyPost_ret (res42 _ b2 (Le.Le.C V) 0 _ rfl rfl rfl ((Qa M).at 1 _ rfl)) rfl ?_;exact⟨rfl,(Qa M).kept⟩
 go_wp2_with (first |(refine QG (T:=73) (Le.Le.C Le.le0) Le.build23 rfl rfl ?_;refine Stp.go ?_))
 constructor
 go_wp2_with (first |(refine Qh Le.QC rfl (.tmp 6) (.tmp 35) rfl rfl b2 1 (Le.Le.C Le.le0) rfl rfl rfl (Le.QV _) (Qa M) rfl rfl ?_;intro W7 N7;replace M:Hid (Mm [] w W7 [(b1,23,Ar.Qf J),(b2,73,Le.Le.C Le.le0),(b4,59,u8s s),(b6,73,Le.Le.C V)]):=hide N7;clear N7;refine Stp.go ?_))
 constructor
 go_wp2_with fail
 refine bodyPost_ret (res42 _ b2 (Le.Le.C Le.le0) 12 _ rfl rfl rfl ((Qa M).at 1 _ rfl)) rfl ?_;exact⟨rfl,(Qa M).kept⟩
theorem rlease42 (r sg eg:Nat) (D:Dv.Dev) (J:Ar.Job) (n:Int) (w:World) (h:Dv.Rv w r sg eg D) (hJ:J.n≤8):Calls Tryz.prog 42 #[P0 r,Qd (Ar.Qf J),.int .i64 n] w fun x w'=>x= .returned (.tuple #[Qd (Le.Le.C (rlease D J n).1),.int .i64 (rlease D J n).2])∧Kept [] w w':=by
 unfold rlease;by_cases h1:n<0
 · rw [if_pos (Or.inl h1)];exact rlease_a_F.1 r J n w (decide_eq_true h1)
 by_cases h2:J.n≤n
 · rw [if_pos (Or.inr h2)];exact rlease_a_F.2.1 r J n w (decide_eq_false h1) (decide_eq_true h2)
 rw [if_neg (by omega)];rcases getL_two (D.read (1+n)).1 with h0 | h0
 · rw [h0];exact rlease_a_F.2.2.1 r sg eg D J n w h _ _ rfl (decide_eq_true h0) (decide_eq_false h1) (decide_eq_false h2) (by omega)
 · rw [h0];exact rlease_a_F.2.2.2 r sg eg D J n w h _ _ h0 rfl (decide_eq_false h1) (decide_eq_false h2) (by omega)
end Go.Proofs.YtcfflbafclmheaaGreatDoor
