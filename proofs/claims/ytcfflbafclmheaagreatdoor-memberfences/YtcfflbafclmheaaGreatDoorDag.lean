/-
  Texts of the walks of member, shortened.
-/
import Derived.Test.YtcfflbafclmheaaGreatDoorDaf
import Derived.Test.YtcfflbafclmheaaGreatDoorDac
set_option maxRecDepth 100000
set_option maxHeartbeats 100000000
set_option linter.unusedSimpArgs false
namespace Go.Proofs.YtcfflbafclmheaaGreatDoor.Le
open Go.RowKit
def be:Nat→Int→List Int
 | 0,_=> []
 | k+1,n=>be k (n/256)++ [n%256]
theorem ZV:∀(k:Nat) (n:Int),(be k n).length=k
 | 0,_=>rfl
 | k+1,n=>by rw [be,List.length_append,ZV k];rfl
theorem be_byte:∀(k:Nat) (n:Int),∀x∈be k n,0≤x∧x<256
 | 0,_=>by simp [be]
 | k+1,n=>by
  intro x hx;rw [be] at hx;rcases List.mem_append.1 hx with h | h
  · exact be_byte k _ x h
  · simp at h;omega
theorem u8s_set (l:List Int) (i:Nat) (x:Int):(u8s l).set i (.int .u8 x)=u8s (l.set i x):=by simp [u8s,List.map_set]
theorem set_at (A B:List Int) (x y:Int) (n:Nat) (h:A.length=n):(A++x::B).set n y=A++y::B:=by
 subst h;rw [List.set_append_right _ _ (Nat.le_refl _)];simp
theorem put25 (b k o:Nat) (n:Int) (pre mid post:List Int) (w:World) (hB:Blk w b 59 (u8s (pre++mid++post))) (hp:pre.length=o) (hm:mid.length=k) (c:Nat) (hk:k≤8) (hn:I64 n):Calls Tryz.prog 124 #[.slice (some ⟨b,o,none⟩) k c,.int .i64 n] w fun e w'=>e= .returned (.tuple #[])∧Blk w' b 59 (u8s (pre++be k n++post))∧Kept [b] w w':=by
 have HB:=hide hB;have HK:=hide (Kept.refl [b] w);have hkI:(k:Int)≤8:=by omega
 have HP:=hide hp;have HM:=hide hm;have HN:=hide hn;clear hB hp hm hn;go_enter Tryz.func124,Tryz.ntmps124
 go_wp2_with fail
 go_loopw [1,4] (fun xn xi wr=>∃(j:Nat) (q:Int) (tl:List Int),j≤k∧xn= .int .i64 q∧xi= .int .i64 ((j:Int)-1)∧Hid (I64 q)∧Hid (be k n=be j q++tl)∧Hid (Blk wr b 59 (u8s (pre++(mid.take j++tl)++post)))∧Hid (Kept [b] w wr)) (fun _ i _=>(intOf i+1).toNat)
 case atStart=>exact ⟨k,n,[],Nat.le_refl _,rfl,rfl,HN,by show _=_;simp,by rw [List.take_of_length_le (by rw [Qa HM];exact Nat.le_refl _),List.append_nil];exact HB,HK⟩
 case round=>
  clear HB HK;obtain⟨j,q,tl,hj,rfl,rfl,HQ,HE,HB,HK⟩:=hrel;cases j with
  | zero=>
   have hd:decide (0≤((0:Nat):Int)-1)=false:=by decide
   go_wp2_with fail
   go_end0
   have h9:=Qa HE;have h8:=Qa HB;rw [be,List.nil_append] at h9;rw [List.take_zero,List.nil_append] at h8;rw [h9];exact⟨rfl,h8,Qa HK⟩
  | succ j=>
   have e1:((j+1:Nat):Int)-1=(j:Int):=by omega
   rw [e1];clear e1;have hjk:(j:Int)<(k:Int):=by omega
   obtain⟨x,hx⟩:∃x,mid[j]?=some x:=⟨_,List.getElem?_eq_getElem (by have:=Qa HM;omega)⟩;have hl:=Qa HB;have hlen:(pre++mid.take j).length=o+j:=by
    rw [List.length_append,List.length_take,Qa HP,Qa HM];omega
   have he:pre++(mid.take (j+1)++tl)++post=(pre++mid.take j)++x::(tl++post):=by
    rw [List.take_add_one,hx];simp
   rw [he] at hl;have HB2:=hide hl;have HLT:Hid (o+j<(u8s ((pre++mid.take j)++x::(tl++post))).length):=by
    show _<_;rw [Qy,List.length_append,hlen];simp
   have HS:Hid ((u8s ((pre++mid.take j)++x::(tl++post))).set (o+j) (.int .u8 (q%256))=u8s (pre++(mid.take j++(q%256)::tl)++post)):=by
    show _=_;rw [u8s_set,set_at _ _ _ _ _ hlen];simp
   have hq:=Qa HQ;obtain⟨q1,q2⟩:=hq;have HQ2:Hid (I64 (q/256)):=by constructor <;> omega
   have HE2:Hid (be k n=be j (q/256)++(q%256::tl)):=by
    show _=_;rw [Qa HE,be];simp
   clear hx hl hlen he HB HE HQ;go_wp2_with (first |(refine ZT size5 (by rfl) (.tmp 16) (.tmp 15) (by rfl) (by rfl) b (o+j) (.int .u8 (q%256)) ⟨rfl,rfl⟩ (by rfl) (by rfl) (Qa HB2) (Qa HLT) ?_;intro W9 B9 K9;rw [Qa HS] at B9;have HB9:=hide B9;have HK9:Hid (Kept [b] w W9):=(Qa HK).trans K9;clear B9 K9;refine Stp.go ?_))
   constructor
   go_wp2_with fail
   go_roundw
   case rel=>exact ⟨j,q/256,q%256::tl,by omega,rfl,rfl,HQ2,HE2,HB9,HK9⟩
   case measure=>simp [intOf]
def ofB:Int→List Int→Int
 | n,[]=>n
 | n,x::l=>ofB (wrap64 (n*256+x)) l
theorem w64_i (n:Int):I64 (wrap64 n):=by unfold wrap64;constructor <;> omega
theorem or_byte (q x:Int) (h0:0≤x) (h1:x<256):bits BinOp.or IntKind.i64 (wrap64 (q*256)) x=wrap64 (q*256+x):=by
 have hx:(BitVec.ofInt 64 x).toNat=x.toNat:=by rw [BitVec.toNat_ofInt];omega
 obtain⟨m,hm⟩:∃m:Nat,(BitVec.ofInt 64 (wrap64 (q*256))).toNat=2^8*m∧((2^8*m:Nat):Int)=(q*256)%18446744073709551616:=by
  refine⟨(q%72057594037927936).toNat,?_,?_⟩
  · rw [BitVec.toNat_ofInt];unfold wrap64;omega
  · omega
 show IntKind.i64.wrap ((BitVec.ofInt 64 (wrap64 (q*256)) ||| BitVec.ofInt 64 x).toNat:Int)=_;rw [BitVec.toNat_or,hx,hm.1,← Nat.two_pow_add_eq_or_of_lt (by omega),IntKind.wrap_i64];have:=hm.2;unfold wrap64;omega
theorem number26 (b k o:Nat) (pre mid post:List Int) (w:World) (hB:Blk w b 59 (u8s (pre++mid++post))) (hp:pre.length=o) (hm:mid.length=k) (hy:∀x∈mid,0≤x∧x<256) (c:Nat) (hk:k≤8):Calls Tryz.prog 149 #[.slice (some ⟨b,o,none⟩) k c] w fun e w'=>e= .returned (.int .i64 (ofB 0 mid))∧w'=w:=by
 have HB:=hide hB;have hkI:(k:Int)≤8:=by omega
 have HP:=hide hp;have HM:=hide hm;have HY:=hide hy;clear hB hp hm hy;go_enter Tryz.func149,Tryz.ntmps149
 go_wp2_with fail
 go_loopw [3,8] (fun xn xi wr=>∃(j:Nat) (q:Int),j≤k∧xn= .int .i64 q∧xi= .int .i64 j∧Hid (I64 q)∧Hid (ofB 0 mid=ofB q (mid.drop j))∧Hid (wr=w)) (fun _ i _=>k-(intOf i).toNat)
 case atStart=>exact ⟨0,0,by omega,rfl,rfl,⟨by decide,by decide⟩,by show _=_;simp,rfl⟩
 case round=>
  obtain⟨j,q,hj,rfl,rfl,HQ,HE,HW⟩:=hrel;by_cases hlt:j<k
  · obtain⟨x,hx⟩:∃x,mid[j]?=some x:=⟨_,List.getElem?_eq_getElem (by have:=Qa HM;omega)⟩;have hjk:(j:Int)<(k:Int):=by omega
    have hd:decide ((j:Int)<(k:Int))=true:=by simpa using hjk
    have hx8:=Qa HY x (List.mem_of_getElem? hx);have hc:wr.cell? ⟨b,o+j,none⟩=some (.int .u8 x):=by
     rw [Qa HW,(Qa HB).cell];simp only [u8s,List.getElem?_map];rw [List.append_assoc,List.getElem?_append_right (by have:=Qa HP;omega),Qa HP,Nat.add_sub_cancel_left,List.getElem?_append_left (by have:=Qa HM;omega),hx];rfl
    have hq:=Qa HQ;obtain⟨q1,q2⟩:=hq;obtain⟨x1,x2⟩:=hx8;have HO:Hid (bits BinOp.or IntKind.i64 (wrap64 (q*256)) x=wrap64 (q*256+x)):=or_byte q x x1 x2;have HE2:Hid (ofB 0 mid=ofB (wrap64 (q*256+x)) (mid.drop (j+1))):=by
     show _=_;obtain⟨h1,h2⟩:=List.getElem?_eq_some_iff.1 hx;rw [Qa HE,List.drop_eq_getElem_cons h1,h2,ofB]
    clear hx HE;go_wp2_with fail
    go_roundw
    case rel=>exact ⟨j+1,wrap64 (q*256+x),by omega,by rw [Qa HO],by go_num,w64_i _,HE2,HW⟩
    case measure=>simp [intOf];omega
  · have hd:decide ((j:Int)<(k:Int))=false:=by simp;omega
    go_wp2_with fail
    go_ret
    have h9:=Qa HE;rw [List.drop_of_length_le (by have:=Qa HM;omega),ofB] at h9;exact⟨by rw [h9];rfl,Qa HW⟩
theorem ofB_app:∀(l:List Int) (n x:Int),ofB n (l++ [x])=wrap64 (ofB n l*256+x)
 | [],n,x=>rfl
 | y::l,n,x=>by rw [List.cons_append,ofB,ofB_app l,ofB]
theorem ofB_be:∀(k:Nat) (m:Int),0≤m→m<256^k→m≤9223372036854775807→ofB 0 (be k m)=m
 | 0,m,h0,h1,_=>by
  rw [Int.pow_zero] at h1;simp [be,ofB];omega
 | k+1,m,h0,h1,h2=>by
  have hp:(256:Int)^(k+1)=256^k*256:=Int.pow_succ ..;rw [hp] at h1;rw [be,ofB_app,ofB_be k (m/256) (by omega) (by omega) (by omega)];unfold wrap64;omega
theorem zl (n:Nat):(u8s (zs n)).length=n:=by simp [Qy,zs]
theorem res8 (w:World) (z:Nat) (vs:List Value) (e:Int) (tmps:Array Value) (h4:tmps[2]?.getD undef=P0 z) (h5:tmps[3]?.getD undef= .int .i64 e) (hl:vs.length=64) (hb:Blk w z 59 vs):(results Tryz.f70 tmps).run Tryz.prog w= .ok (.tuple #[Qd vs,.int .i64 e]) w:=by
 have:=Zq row25 hl hb;simp [results,Tryz.results70,h4,h5,this,asAddr]
theorem res9 (w:World) (z:Nat) (vs:List Value) (e:Int) (tmps:Array Value) (h4:tmps[2]?.getD undef=P0 z) (h5:tmps[3]?.getD undef= .int .i64 e) (hl:vs.length=3) (hb:Blk w z 73 vs):(results Tryz.f121 tmps).run Tryz.prog w= .ok (.tuple #[Qd vs,.int .i64 e]) w:=by
 have:=Zq QC hl hb;simp [results,Tryz.results121,h4,h5,this,asAddr]
theorem cg25 (vs:Array Value) (w:World):(callFunc 124 vs).run Tryz.prog w= .ok (.enter 124 vs) w:=by kernel_rfl
theorem cg26 (vs:Array Value) (w:World):(callFunc 149 vs).run Tryz.prog w= .ok (.enter 149 vs) w:=by kernel_rfl
section
variable {o:Oper} {a:Act} {w:World} {K:Act→World→Prop} {Q:Exit→Act→World→Prop}
theorem o_sl1 (x:Operand) (ho:o.op= .slice 59 x (some (.const (.int .i64 1))) (some (.const (.int .i64 5))) none) (b:Nat) (hx:a.eval x=P0 b) (h:K (a.put o.dst (.slice (some ⟨b,1,none⟩) 4 63)) w):o.wp Tryz.prog a w K Q:=by
 unfold Oper.wp execOp;simp only [ho,hx];simp [go_sem,Act.eval];exact h
theorem o_sl5 (x:Operand) (ho:o.op= .slice 59 x (some (.const (.int .i64 5))) (some (.const (.int .i64 13))) none) (b:Nat) (hx:a.eval x=P0 b) (h:K (a.put o.dst (.slice (some ⟨b,5,none⟩) 8 59)) w):o.wp Tryz.prog a w K Q:=by
 unfold Oper.wp execOp;simp only [ho,hx];simp [go_sem,Act.eval];exact h
theorem o_sl13 (x:Operand) (ho:o.op= .slice 59 x (some (.const (.int .i64 13))) (some (.const (.int .i64 21))) none) (b:Nat) (hx:a.eval x=P0 b) (h:K (a.put o.dst (.slice (some ⟨b,13,none⟩) 8 51)) w):o.wp Tryz.prog a w K Q:=by
 unfold Oper.wp execOp;simp only [ho,hx];simp [go_sem,Act.eval];exact h
end
theorem Mm.sec {X:List Nat} {w0 W:World} {bs:List (Nat×Nat×List Value)} (h:Mm X w0 W bs) {w1:World} (i:Nat) {b:Nat} {us vs:List Value} (hi:bs[i]?=some (b,59,us)) (hB:Blk w1 b 59 vs) (hK:Kept [b] W w1):Mm X w0 w1 (bs.set i (b,59,vs)):=h.mut i hi hK hB
def QR (lx:Le):List Int:= [209]++be 4 lx.ep++be 8 lx.be++be 8 lx.re++zs 43
def putL (lx:Le):List Int×Int:=if lx.may=false then (zs 64,2) else if lx=le0 then (zs 64,0) else (QR lx,0)
theorem Zj (lx:Le):(QR lx).length=64:=by simp [QR,ZV,zs]
set_option linter.unusedVariables false in
theorem put_a_F:(∀(lx:Le) (w:World) (hm:lx.may=false),Calls Tryz.prog 70 #[Qd lx.C] w fun e w'=>e= .returned (.tuple #[Qd (u8s (zs 64)),.int .i64 2])∧Kept [] w w')∧(∀(lx:Le) (w:World) (hm:lx.may=true) (hq:decide (lx=le0)=true),Calls Tryz.prog 70 #[Qd lx.C] w fun e w'=>e= .returned (.tuple #[Qd (u8s (zs 64)),.int .i64 0])∧Kept [] w w')∧(∀(lx:Le) (w:World) (hm:lx.may=true) (hq:decide (lx=le0)=false),Calls Tryz.prog 70 #[Qd lx.C] w fun e w'=>e= .returned (.tuple #[Qd (u8s (QR lx)),.int .i64 0])∧Kept [] w w'):=by
 refine⟨fun lx w hm=> ?_,fun lx w hm hq=> ?_,fun lx w hm hq=> ?_⟩;have P24:∀W,Hid (Calls Tryz.prog 123 #[Qd lx.C] W fun e w'=>e= .returned (.bool false)∧Kept [] W w'):=fun W=>hide (by have:=may24 lx W;rw [hm] at this;exact this)
 rotate_left
 have P24:∀W,Hid (Calls Tryz.prog 123 #[Qd lx.C] W fun e w'=>e= .returned (.bool true)∧Kept [] W w'):=fun W=>hide (by have:=may24 lx W;rw [hm] at this;exact this)
 rotate_left
 have P24:∀W,Hid (Calls Tryz.prog 123 #[Qd lx.C] W fun e w'=>e= .returned (.bool true)∧Kept [] W w'):=fun W=>hide (by have:=may24 lx W;rw [hm] at this;exact this);have hb:=hm;simp only [Le.may,decide_eq_true_eq] at hb;have HEP:Hid (I64 lx.ep):=by constructor <;> omega
 have HBE:Hid (I64 lx.be):=by constructor <;> omega
 have HRE:Hid (I64 lx.re):=by constructor <;> omega
 clear hb
 rotate_left
 all_goals
   go_enter Tryz.func70,Tryz.ntmps70
   have M:Hid (Mm [] w w []):=hide Mm.init;go_wp2_with (first |(refine Qp rfl (.tmp 0) rfl (lx.C) rfl ?_;intro W1 b1 e1 B1 K1;replace M:=hide ((Qa M).new e1 B1 K1);clear e1 B1 K1;refine Stp.go ?_))
   constructor
   go_wp2_with (first |(refine Qv (u8s (zs 64)) zero25 2 rfl rfl rfl ?_;intro W2 b2 e2 B2 K2;replace M:=hide ((Qa M).new e2 B2 K2);clear e2 B2 K2;refine Stp.go ?_))
   constructor
   go_wp2_with (first |(refine Qv (u8s (zs 64)) zero25 4 rfl rfl rfl ?_;intro W3 b3 e3 B3 K3;replace M:=hide ((Qa M).new e3 B3 K3);clear e3 B3 K3;refine Stp.go ?_))
   constructor
   go_wp2_with (first |(refine Qg QC rfl (.tmp 1) rfl b1 0 rfl (lx.C) rfl ((Qa M).at 0 _ rfl).range ?_;refine Stp.go ?_))
   constructor
   go_wp2_with (first |(go_at_call 123;refine(Qa (P24 _)).mono ?_;rintro e W4 ⟨rfl,K4⟩;replace M:=hide ((Qa M).step K4);clear K4;refine Stp.go ?_))
   constructor
 · go_wp2_with (first |(refine Qg row25 rfl (.tmp 4) rfl b3 0 rfl (u8s (zs 64)) (zl 64) ((Qa M).at 2 _ rfl).range ?_;refine Stp.go ?_))
   constructor
   go_wp2_with (first |(refine Qh row25 rfl (.tmp 2) (.tmp 9) rfl rfl b2 1 (u8s (zs 64)) rfl rfl (zl 64) (QU _) (Qa M) rfl (zl 64) ?_;intro W5 N5;replace M:Hid (Mm [] w W5 [(b1,73,lx.C),(b2,59,u8s (zs 64)),(b3,59,u8s (zs 64))]):=hide N5;clear N5;refine Stp.go ?_))
   constructor
   go_wp2_with fail
   refine bodyPost_ret (res8 _ b2 (u8s (zs 64)) 2 _ rfl rfl (zl 64) ((Qa M).at 1 _ rfl)) rfl ?_;exact⟨rfl,(Qa M).kept⟩
 all_goals
   go_wp2_with (first |(refine Qg QC rfl (.tmp 1) rfl b1 0 rfl (lx.C) rfl ((Qa M).at 0 _ rfl).range ?_;refine Stp.go ?_))
   constructor
   go_wp2_with (first |(refine QG (T:=73) le0.C build23 rfl rfl ?_;refine Stp.go ?_))
   constructor
 · go_wp2_with (first |(refine wpEqlA 73 73 guard23 (.tmp 11) (.tmp 12) rfl rfl (lx.C) (le0.C) rfl rfl true ((eqL23 _ _ _).trans (by rw [hq])) ?_;refine Stp.go ?_))
   constructor
   go_wp2_with (first |(refine Qg row25 rfl (.tmp 4) rfl b3 0 rfl (u8s (zs 64)) (zl 64) ((Qa M).at 2 _ rfl).range ?_;refine Stp.go ?_))
   constructor
   go_wp2_with (first |(refine Qh row25 rfl (.tmp 2) (.tmp 14) rfl rfl b2 1 (u8s (zs 64)) rfl rfl (zl 64) (QU _) (Qa M) rfl (zl 64) ?_;intro W5 N5;replace M:Hid (Mm [] w W5 [(b1,73,lx.C),(b2,59,u8s (zs 64)),(b3,59,u8s (zs 64))]):=hide N5;clear N5;refine Stp.go ?_))
   constructor
   go_wp2_with fail
   refine bodyPost_ret (res8 _ b2 (u8s (zs 64)) 0 _ rfl rfl (zl 64) ((Qa M).at 1 _ rfl)) rfl ?_;exact⟨rfl,(Qa M).kept⟩
 go_wp2_with (first |(refine wpEqlA 73 73 guard23 (.tmp 11) (.tmp 12) rfl rfl (lx.C) (le0.C) rfl rfl false ((eqL23 _ _ _).trans (by rw [hq])) ?_;refine Stp.go ?_))
 constructor
 go_wp2_with (first |(refine Qo size5 rfl (.tmp 15) (.const (.int .u8 209)) rfl rfl b3 0 2 (.int .u8 209) ⟨rfl,rfl⟩ rfl rfl (Qa M) rfl (by simp [u8s,zs]) ?_;intro W5 N5;replace M:Hid (Mm [] w W5 [(b1,73,lx.C),(b2,59,u8s (zs 64)),(b3,59,u8s ([209]++zs 4++zs 59))]):=hide N5;clear N5;refine Stp.go ?_))
 constructor
 go_wp2_with fail
 refine wp_region_any mixed (QL 4 rfl (by kernel_rfl) [some (.slice (some ⟨b3,1,none⟩) 4 63),some (.pointer (some ⟨b1,0,none⟩)),some (.int .i64 lx.ep),none] rfl (by kernel_rfl) (fun l vs W=>(SX [] w (fun S=> [(b1,73,lx.C),(b2,59,u8s (zs 64)),(b3,59,u8s S)]) ([209]++zs 4++zs 59) ([209]++be 4 lx.ep++zs 59) 3) (fun i=>l.getD i false) vs W) (⟨_,(Qa M).drew,(fun _=>rfl),fun h=>by cases h⟩) ?_ ?_)
 · intro ix o' hi ho a' w2 l vs hls hlf hJ hout hin hdep hnot
   match ix,ho with
   | 0,ho=>
    obtain rfl:=Oj9 ho;have e0:=hout 4 (by kernel_rfl);replace e0:a'.eval (.tmp 4)=_:=e0.trans rfl;exact o_sl1 (.tmp 4) rfl b3 e0 ⟨_,rfl,Qe rfl,Qj [3] SX.loc (by omega) (by decide) hJ⟩
   | 1,ho=>
    obtain rfl:=Oj9 ho;have e0:=hout 1 (by kernel_rfl);replace e0:a'.eval (.tmp 1)=_:=e0.trans rfl;exact o_fld23_0 (.tmp 1) rfl b1 0 e0 ⟨_,rfl,Qe rfl,Qj [3] SX.loc (by omega) (by decide) hJ⟩
   | 2,ho=>
    obtain rfl:=Oj9 ho;have e0:a'.eval (.tmp 17)= .pointer (some ⟨b1,0,none⟩):=by have h9:=hin 1 17 (by kernel_rfl) (by kernel_rfl);exact h9.1.trans (Qc _ h9.2 rfl)
    have hJ2:=hJ;obtain⟨S,hM,_,_⟩:=hJ2;exact Za (.tmp 17) rfl _ _ e0 (Qb (hM.at 0 _ rfl) 0 _ rfl) ⟨_,rfl,Qe rfl,Qj [3] SX.loc (by omega) (by decide) hJ⟩
   | 3,ho=>
    obtain rfl:=Oj9 ho;have e0:a'.eval (.tmp 16)= .slice (some ⟨b3,1,none⟩) 4 63:=by have h9:=hin 0 16 (by kernel_rfl) (by kernel_rfl);exact h9.1.trans (Qc _ h9.2 rfl)
    have e1:a'.eval (.tmp 18)= .int .i64 lx.ep:=by have h9:=hin 2 18 (by kernel_rfl) (by kernel_rfl);exact h9.1.trans (Qc _ h9.2 rfl)
    obtain⟨S,hM,hS0,_⟩:=hJ;obtain rfl:=hS0 hlf;refine Qq 124 _ _ rfl #[.slice (some ⟨b3,1,none⟩) 4 63,.int .i64 lx.ep] (by simp [e0,e1]) (cg25 _ _) ((put25 b3 4 1 lx.ep [209] (zs 4) (zs 59) w2 (by have h9:=hM.at 2 _ rfl;exact h9) (by first | rfl | simp [ZV]) (by simp [zs]) 63 (by omega) (Qa HEP)).mono ?_);rintro e w3 ⟨rfl,hB3,hk3⟩;exact⟨_,rfl,_,rfl,QA rfl,QJ (by omega) ⟨_,hM.sec 2 rfl hB3 hk3,(fun h=>by cases h),fun _=>by first | rfl | simp [QR]⟩⟩
 intro l_0 vs0 V0 hl hJ htold;have t0:vs0 0= .slice (some ⟨b3,1,none⟩) 4 63:=Qc _ (htold 0 (by decide)) rfl;have t1:vs0 1= .pointer (some ⟨b1,0,none⟩):=Qc _ (htold 1 (by decide)) rfl;have t2:vs0 2= .int .i64 lx.ep:=Qc _ (htold 2 (by decide)) rfl;rw [show (List.range 4).map vs0= [vs0 0,vs0 1,vs0 2,vs0 3] from rfl];simp only [t0,t1,t2,Qz,Act.put,List.setIfInBounds_toArray,List.set_cons_succ,List.set_cons_zero];clear t0 t1 t2 htold;obtain⟨S4,hM4,_,hS4⟩:=hJ;obtain rfl:=hS4 (hl 3 (by decide));rw [show [209]++be 4 lx.ep++zs 59=([209]++be 4 lx.ep)++zs 8++zs 51 by simp [zs]] at hM4;replace M:=hide hM4;clear hS4 hM4 hl;go_wp2_with fail
 refine wp_region_any mixed (QL 4 rfl (by kernel_rfl) [some (.slice (some ⟨b3,5,none⟩) 8 59),some (.pointer (some ⟨b1,0+1,none⟩)),some (.int .i64 lx.be),none] rfl (by kernel_rfl) (fun l vs W=>(SX [] w (fun S=> [(b1,73,lx.C),(b2,59,u8s (zs 64)),(b3,59,u8s S)]) ([209]++be 4 lx.ep++zs 8++zs 51) ([209]++be 4 lx.ep++be 8 lx.be++zs 51) 3) (fun i=>l.getD i false) vs W) (⟨_,(Qa M).drew,(fun _=>rfl),fun h=>by cases h⟩) ?_ ?_)
 · intro ix o' hi ho a' w2 l vs hls hlf hJ hout hin hdep hnot
   match ix,ho with
   | 0,ho=>
    obtain rfl:=Oj9 ho;have e0:=hout 4 (by kernel_rfl);replace e0:a'.eval (.tmp 4)=_:=e0.trans rfl;exact o_sl5 (.tmp 4) rfl b3 e0 ⟨_,rfl,Qe rfl,Qj [3] SX.loc (by omega) (by decide) hJ⟩
   | 1,ho=>
    obtain rfl:=Oj9 ho;have e0:=hout 1 (by kernel_rfl);replace e0:a'.eval (.tmp 1)=_:=e0.trans rfl;exact o_fld23_1 (.tmp 1) rfl b1 0 e0 ⟨_,rfl,Qe rfl,Qj [3] SX.loc (by omega) (by decide) hJ⟩
   | 2,ho=>
    obtain rfl:=Oj9 ho;have e0:a'.eval (.tmp 21)= .pointer (some ⟨b1,0+1,none⟩):=by have h9:=hin 1 21 (by kernel_rfl) (by kernel_rfl);exact h9.1.trans (Qc _ h9.2 rfl)
    have hJ2:=hJ;obtain⟨S,hM,_,_⟩:=hJ2;exact Za (.tmp 21) rfl _ _ e0 (Qb (hM.at 0 _ rfl) 1 _ rfl) ⟨_,rfl,Qe rfl,Qj [3] SX.loc (by omega) (by decide) hJ⟩
   | 3,ho=>
    obtain rfl:=Oj9 ho;have e0:a'.eval (.tmp 20)= .slice (some ⟨b3,5,none⟩) 8 59:=by have h9:=hin 0 20 (by kernel_rfl) (by kernel_rfl);exact h9.1.trans (Qc _ h9.2 rfl)
    have e1:a'.eval (.tmp 22)= .int .i64 lx.be:=by have h9:=hin 2 22 (by kernel_rfl) (by kernel_rfl);exact h9.1.trans (Qc _ h9.2 rfl)
    obtain⟨S,hM,hS0,_⟩:=hJ;obtain rfl:=hS0 hlf;refine Qq 124 _ _ rfl #[.slice (some ⟨b3,5,none⟩) 8 59,.int .i64 lx.be] (by simp [e0,e1]) (cg25 _ _) ((put25 b3 8 5 lx.be ([209]++be 4 lx.ep) (zs 8) (zs 51) w2 (by have h9:=hM.at 2 _ rfl;exact h9) (by first | rfl | simp [ZV]) (by simp [zs]) 59 (by omega) (Qa HBE)).mono ?_);rintro e w3 ⟨rfl,hB3,hk3⟩;exact⟨_,rfl,_,rfl,QA rfl,QJ (by omega) ⟨_,hM.sec 2 rfl hB3 hk3,(fun h=>by cases h),fun _=>by first | rfl | simp [QR]⟩⟩
 intro l_1 vs1 V1 hl hJ htold;have t0:vs1 0= .slice (some ⟨b3,5,none⟩) 8 59:=Qc _ (htold 0 (by decide)) rfl;have t1:vs1 1= .pointer (some ⟨b1,0+1,none⟩):=Qc _ (htold 1 (by decide)) rfl;have t2:vs1 2= .int .i64 lx.be:=Qc _ (htold 2 (by decide)) rfl;rw [show (List.range 4).map vs1= [vs1 0,vs1 1,vs1 2,vs1 3] from rfl];simp only [t0,t1,t2,Qz,Act.put,List.setIfInBounds_toArray,List.set_cons_succ,List.set_cons_zero];clear t0 t1 t2 htold;obtain⟨S4,hM4,_,hS4⟩:=hJ;obtain rfl:=hS4 (hl 3 (by decide));rw [show [209]++be 4 lx.ep++be 8 lx.be++zs 51=([209]++be 4 lx.ep++be 8 lx.be)++zs 8++zs 43 by simp [zs]] at hM4;replace M:=hide hM4;clear hS4 hM4 hl;go_wp2_with fail
 refine wp_region_any mixed (QL 4 rfl (by kernel_rfl) [some (.slice (some ⟨b3,13,none⟩) 8 51),some (.pointer (some ⟨b1,0+2,none⟩)),some (.int .i64 lx.re),none] rfl (by kernel_rfl) (fun l vs W=>(SX [] w (fun S=> [(b1,73,lx.C),(b2,59,u8s (zs 64)),(b3,59,u8s S)]) ([209]++be 4 lx.ep++be 8 lx.be++zs 8++zs 43) (QR lx) 3) (fun i=>l.getD i false) vs W) (⟨_,(Qa M).drew,(fun _=>rfl),fun h=>by cases h⟩) ?_ ?_)
 · intro ix o' hi ho a' w2 l vs hls hlf hJ hout hin hdep hnot
   match ix,ho with
   | 0,ho=>
    obtain rfl:=Oj9 ho;have e0:=hout 4 (by kernel_rfl);replace e0:a'.eval (.tmp 4)=_:=e0.trans rfl;exact o_sl13 (.tmp 4) rfl b3 e0 ⟨_,rfl,Qe rfl,Qj [3] SX.loc (by omega) (by decide) hJ⟩
   | 1,ho=>
    obtain rfl:=Oj9 ho;have e0:=hout 1 (by kernel_rfl);replace e0:a'.eval (.tmp 1)=_:=e0.trans rfl;exact o_fld23_2 (.tmp 1) rfl b1 0 e0 ⟨_,rfl,Qe rfl,Qj [3] SX.loc (by omega) (by decide) hJ⟩
   | 2,ho=>
    obtain rfl:=Oj9 ho;have e0:a'.eval (.tmp 25)= .pointer (some ⟨b1,0+2,none⟩):=by have h9:=hin 1 25 (by kernel_rfl) (by kernel_rfl);exact h9.1.trans (Qc _ h9.2 rfl)
    have hJ2:=hJ;obtain⟨S,hM,_,_⟩:=hJ2;exact Za (.tmp 25) rfl _ _ e0 (Qb (hM.at 0 _ rfl) 2 _ rfl) ⟨_,rfl,Qe rfl,Qj [3] SX.loc (by omega) (by decide) hJ⟩
   | 3,ho=>
    obtain rfl:=Oj9 ho;have e0:a'.eval (.tmp 24)= .slice (some ⟨b3,13,none⟩) 8 51:=by have h9:=hin 0 24 (by kernel_rfl) (by kernel_rfl);exact h9.1.trans (Qc _ h9.2 rfl)
    have e1:a'.eval (.tmp 26)= .int .i64 lx.re:=by have h9:=hin 2 26 (by kernel_rfl) (by kernel_rfl);exact h9.1.trans (Qc _ h9.2 rfl)
    obtain⟨S,hM,hS0,_⟩:=hJ;obtain rfl:=hS0 hlf;refine Qq 124 _ _ rfl #[.slice (some ⟨b3,13,none⟩) 8 51,.int .i64 lx.re] (by simp [e0,e1]) (cg25 _ _) ((put25 b3 8 13 lx.re ([209]++be 4 lx.ep++be 8 lx.be) (zs 8) (zs 43) w2 (by have h9:=hM.at 2 _ rfl;exact h9) (by first | rfl | simp [ZV]) (by simp [zs]) 51 (by omega) (Qa HRE)).mono ?_);rintro e w3 ⟨rfl,hB3,hk3⟩;exact⟨_,rfl,_,rfl,QA rfl,QJ (by omega) ⟨_,hM.sec 2 rfl hB3 hk3,(fun h=>by cases h),fun _=>by first | rfl | simp [QR]⟩⟩
 intro l_2 vs2 V2 hl hJ htold;have t0:vs2 0= .slice (some ⟨b3,13,none⟩) 8 51:=Qc _ (htold 0 (by decide)) rfl;have t1:vs2 1= .pointer (some ⟨b1,0+2,none⟩):=Qc _ (htold 1 (by decide)) rfl;have t2:vs2 2= .int .i64 lx.re:=Qc _ (htold 2 (by decide)) rfl;rw [show (List.range 4).map vs2= [vs2 0,vs2 1,vs2 2,vs2 3] from rfl];simp only [t0,t1,t2,Qz,Act.put,List.setIfInBounds_toArray,List.set_cons_succ,List.set_cons_zero];clear t0 t1 t2 htold;obtain⟨S4,hM4,_,hS4⟩:=hJ;obtain rfl:=hS4 (hl 3 (by decide));replace M:=hide hM4;clear hS4 hM4 hl;go_wp2_with (first |(refine Qg row25 rfl (.tmp 4) rfl b3 0 rfl (u8s (QR lx)) (by rw [Qy,Zj]) ((Qa M).at 2 _ rfl).range ?_;refine Stp.go ?_))
 constructor
 go_wp2_with (first |(refine Qh row25 rfl (.tmp 2) (.tmp 28) rfl rfl b2 1 (u8s (QR lx)) rfl rfl (by rw [Qy,Zj]) (QU _) (Qa M) rfl (zl 64) ?_;intro W71 N71;replace M:Hid (Mm [] w W71 [(b1,73,lx.C),(b2,59,u8s (QR lx)),(b3,59,u8s (QR lx))]):=hide N71;clear N71;refine Stp.go ?_))
 constructor
 go_wp2_with fail
 refine bodyPost_ret (res8 _ b2 (u8s (QR lx)) 0 _ rfl rfl (by rw [Qy,Zj]) ((Qa M).at 1 _ rfl)) rfl ?_;exact⟨rfl,(Qa M).kept⟩
theorem put8 (lx:Le) (w:World):Calls Tryz.prog 70 #[Qd lx.C] w fun e w'=>e= .returned (.tuple #[Qd (u8s (putL lx).1),.int .i64 (putL lx).2])∧Kept [] w w':=by
 unfold putL;cases hm:lx.may with
 | false=>exact put_a_F.1 lx w hm
 | true=>
  by_cases hq:lx=le0
  · rw [if_neg (by simp),if_pos hq];exact put_a_F.2.1 lx w hm (by simpa using hq)
  · rw [if_neg (by simp),if_neg hq];exact put_a_F.2.2 lx w hm (by simpa using hq)
open Go.RowKit
def leS (s:List Int):Le:=⟨ofB 0 ((s.drop 1).take 4),ofB 0 ((s.drop 5).take 8),ofB 0 ((s.drop 13).take 8)⟩
def getL (s:List Int):Le×Int:=if putL (leS s)=(s,0) then (leS s,0) else (le0,12)
@[reducible] def SV (V:World) (v:Le) (d:Nat→Bool) (vs:Nat→Value) (W:World):Prop:=
 Kept [] V W∧(d 7=true→∃p,vs 7=P0 p∧V.heap.size≤p∧(d 8=false→Blk W p 73 le0.C)∧(d 8=true→Blk W p 73 v.C))
theorem SV.loc {V:World} {v:Le} :∀d d' vs vs' W,(∀i∈ [7,8],d i=d' i∧vs i=vs' i)→SV V v d vs W→SV V v d' vs' W:=by
 intro d d' vs vs' W H h;have e0:=H 7 (by simp);have e1:=H 8 (by simp);unfold SV at h⊢;rw [← e0.1,← e0.2,← e1.1];exact h
section
variable {o:Oper} {a:Act} {w:World} {K:Act→World→Prop} {Q:Exit→Act→World→Prop}
theorem o_bld23 (x y z:Operand) (ho:o.op= .build 73 #[(0,x),(1,y),(2,z)]) (n f q:Int) (hx:a.eval x= .int .i64 n) (hy:a.eval y= .int .i64 f) (hz:a.eval z= .int .i64 q) (h:K (a.put o.dst (Qd (Le.mk n f q).C)) w):o.wp Tryz.prog a w K Q:=by
 unfold Oper.wp execOp;simp only [ho,List.map_toArray,List.map_cons,List.map_nil,hx,hy,hz,Sem.run_bind,build23p,Result.andThen_ok];exact h
end
theorem Mm.add {X:List Nat} {w0 W:World} {bs:List (Nat×Nat×List Value)} (h:Mm X w0 W bs) {b T:Nat} {vs:List Value} (hb:Blk W b T vs) (hge:w0.heap.size≤b) (hne:∀x∈bs,x.1≠b):Mm X w0 W (bs++ [(b,T,vs)]):=by
 refine⟨h.kept,?_,?_,?_⟩
 · intro x hx;rcases List.mem_append.1 hx with hx | hx
   · exact h.blk x hx
   · simp at hx;subst hx;exact hb
 · intro x hx hl;rcases List.mem_append.1 hx with hx | hx
   · exact h.own x hx hl
   · simp at hx;subst hx;simp at hl;omega
 · rw [List.map_append,List.nodup_append];refine⟨h.nd,by simp,?_⟩;intro a ha c hc;simp at hc;subst hc;obtain⟨x,hx,rfl⟩:=List.mem_map.1 ha;exact hne x hx
theorem putL_len (lx:Le):(putL lx).1.length=64:=by
 unfold putL;split
 · simp [zs]
 · split
   · simp [zs]
   · exact Zj lx
set_option linter.unusedVariables false in
theorem get_a_F:(∀(s q:List Int) (c:Int) (w:World) (hs:Byts 64 s) (hq:q.length=64) (h8:∀W,Calls Tryz.prog 70 #[Qd (leS s).C] W fun e w'=>e= .returned (.tuple #[Qd (u8s q),.int .i64 c])∧Kept [] W w') (hc:¬c=0),Calls Tryz.prog 121 #[Qd (u8s s)] w fun x w'=>x= .returned (.tuple #[Qd le0.C,.int .i64 12])∧Kept [] w w')∧(∀(s q:List Int) (c:Int) (w:World) (hs:Byts 64 s) (hq:q.length=64) (h8:∀W,Calls Tryz.prog 70 #[Qd (leS s).C] W fun e w'=>e= .returned (.tuple #[Qd (u8s q),.int .i64 c])∧Kept [] W w') (hc:c=0) (he:decide (s=q)=true),Calls Tryz.prog 121 #[Qd (u8s s)] w fun x w'=>x= .returned (.tuple #[Qd (leS s).C,.int .i64 0])∧Kept [] w w')∧(∀(s q:List Int) (c:Int) (w:World) (hs:Byts 64 s) (hq:q.length=64) (h8:∀W,Calls Tryz.prog 70 #[Qd (leS s).C] W fun e w'=>e= .returned (.tuple #[Qd (u8s q),.int .i64 c])∧Kept [] W w') (hc:c=0) (he:decide (s=q)=false),Calls Tryz.prog 121 #[Qd (u8s s)] w fun x w'=>x= .returned (.tuple #[Qd le0.C,.int .i64 12])∧Kept [] w w'):=by
 refine⟨fun s q c w hs hq h8 hc=> ?_,fun s q c w hs hq h8 hc he=> ?_,fun s q c w hs hq h8 hc he=> ?_⟩;have P8:∀W,Hid (Calls Tryz.prog 70 #[Qd (leS s).C] W fun e w'=>e= .returned (.tuple #[Qd (u8s q),.int .i64 c])∧Kept [] W w'):=fun W=>hide (h8 W);have hdc:(c == 0)=false:=by simpa using hc
 have hdn:(c !=0)=true:=by simpa using hc
 clear h8
 rotate_left
 have P8:∀W,Hid (Calls Tryz.prog 70 #[Qd (leS s).C] W fun e w'=>e= .returned (.tuple #[Qd (u8s q),.int .i64 c])∧Kept [] W w'):=fun W=>hide (h8 W);subst hc;clear h8
 rotate_left
 have P8:∀W,Hid (Calls Tryz.prog 70 #[Qd (leS s).C] W fun e w'=>e= .returned (.tuple #[Qd (u8s q),.int .i64 c])∧Kept [] W w'):=fun W=>hide (h8 W);subst hc;clear h8
 rotate_left
 all_goals
   go_enter Tryz.func121,Tryz.ntmps121
   have M:Hid (Mm [] w w []):=hide Mm.init;go_wp2_with (first |(refine Qp rfl (.tmp 0) rfl (u8s s) rfl ?_;intro W1 b1 e1 B1 K1;replace M:=hide ((Qa M).new e1 B1 K1);clear e1 B1 K1;refine Stp.go ?_))
   constructor
   go_wp2_with (first |(refine Qv (le0.C) QT 2 rfl rfl rfl ?_;intro W2 b2 e2 B2 K2;replace M:=hide ((Qa M).new e2 B2 K2);clear e2 B2 K2;refine Stp.go ?_))
   constructor
   go_wp2_with fail
   refine wp_region_any mixed (QL 9 rfl (by kernel_rfl) [some (.slice (some ⟨b1,1,none⟩) 4 63),some (.int .i64 (ofB 0 ((s.drop 1).take 4))),some (.slice (some ⟨b1,5,none⟩) 8 59),some (.int .i64 (ofB 0 ((s.drop 5).take 8))),some (.slice (some ⟨b1,13,none⟩) 8 51),some (.int .i64 (ofB 0 ((s.drop 13).take 8))),some (Qd (leS s).C),none,none] rfl (by kernel_rfl) (fun l vs W=>(SV W2 (leS s)) (fun i=>l.getD i false) vs W) (⟨⟨rfl,rfl,rfl,Nat.le_refl _,fun _ _ _=>rfl⟩,fun h=>by cases h⟩) ?_ ?_)
   · intro ix o' hi ho a' w2 l vs hls hlf hJ hout hin hdep hnot
     match ix,ho with
     | 0,ho=>
      obtain rfl:=Oj9 ho;have e0:=hout 1 (by kernel_rfl);replace e0:a'.eval (.tmp 1)=_:=e0.trans rfl;exact o_sl1 (.tmp 1) rfl b1 e0 ⟨_,rfl,Qe rfl,Qj [7,8] SV.loc (by omega) (by decide) hJ⟩
     | 1,ho=>
      obtain rfl:=Oj9 ho;have e0:a'.eval (.tmp 7)= .slice (some ⟨b1,1,none⟩) 4 63:=by have h9:=hin 0 7 (by kernel_rfl) (by kernel_rfl);exact h9.1.trans (Qc _ h9.2 rfl)
      refine Qq 149 _ _ rfl #[.slice (some ⟨b1,1,none⟩) 4 63] (by simp [e0]) (cg26 _ _) ((number26 b1 4 1 (s.take 1) ((s.drop 1).take 4) ((s.drop 1).drop 4) w2 (by have h9:=((Qa M).step hJ.1).at 0 _ rfl;rw [show s.take 1++(s.drop 1).take 4++(s.drop 1).drop 4=s by rw [List.append_assoc,List.take_append_drop,List.take_append_drop]];exact h9) (by rw [List.length_take,hs.len];rfl) (by rw [List.length_take,List.length_drop,hs.len];rfl) (fun x hx=>hs.byte x (List.mem_of_mem_drop (List.mem_of_mem_take hx))) 63 (by omega)).mono ?_);rintro e w3 ⟨rfl,rfl⟩;exact⟨_,rfl,_,rfl,Qe rfl,Qj [7,8] SV.loc (by omega) (by decide) hJ⟩
     | 2,ho=>
      obtain rfl:=Oj9 ho;have e0:=hout 1 (by kernel_rfl);replace e0:a'.eval (.tmp 1)=_:=e0.trans rfl;exact o_sl5 (.tmp 1) rfl b1 e0 ⟨_,rfl,Qe rfl,Qj [7,8] SV.loc (by omega) (by decide) hJ⟩
     | 3,ho=>
      obtain rfl:=Oj9 ho;have e0:a'.eval (.tmp 9)= .slice (some ⟨b1,5,none⟩) 8 59:=by have h9:=hin 2 9 (by kernel_rfl) (by kernel_rfl);exact h9.1.trans (Qc _ h9.2 rfl)
      refine Qq 149 _ _ rfl #[.slice (some ⟨b1,5,none⟩) 8 59] (by simp [e0]) (cg26 _ _) ((number26 b1 8 5 (s.take 5) ((s.drop 5).take 8) ((s.drop 5).drop 8) w2 (by have h9:=((Qa M).step hJ.1).at 0 _ rfl;rw [show s.take 5++(s.drop 5).take 8++(s.drop 5).drop 8=s by rw [List.append_assoc,List.take_append_drop,List.take_append_drop]];exact h9) (by rw [List.length_take,hs.len];rfl) (by rw [List.length_take,List.length_drop,hs.len];rfl) (fun x hx=>hs.byte x (List.mem_of_mem_drop (List.mem_of_mem_take hx))) 59 (by omega)).mono ?_);rintro e w3 ⟨rfl,rfl⟩;exact⟨_,rfl,_,rfl,Qe rfl,Qj [7,8] SV.loc (by omega) (by decide) hJ⟩
     | 4,ho=>
      obtain rfl:=Oj9 ho;have e0:=hout 1 (by kernel_rfl);replace e0:a'.eval (.tmp 1)=_:=e0.trans rfl;exact o_sl13 (.tmp 1) rfl b1 e0 ⟨_,rfl,Qe rfl,Qj [7,8] SV.loc (by omega) (by decide) hJ⟩
     | 5,ho=>
      obtain rfl:=Oj9 ho;have e0:a'.eval (.tmp 11)= .slice (some ⟨b1,13,none⟩) 8 51:=by have h9:=hin 4 11 (by kernel_rfl) (by kernel_rfl);exact h9.1.trans (Qc _ h9.2 rfl)
      refine Qq 149 _ _ rfl #[.slice (some ⟨b1,13,none⟩) 8 51] (by simp [e0]) (cg26 _ _) ((number26 b1 8 13 (s.take 13) ((s.drop 13).take 8) ((s.drop 13).drop 8) w2 (by have h9:=((Qa M).step hJ.1).at 0 _ rfl;rw [show s.take 13++(s.drop 13).take 8++(s.drop 13).drop 8=s by rw [List.append_assoc,List.take_append_drop,List.take_append_drop]];exact h9) (by rw [List.length_take,hs.len];rfl) (by rw [List.length_take,List.length_drop,hs.len];rfl) (fun x hx=>hs.byte x (List.mem_of_mem_drop (List.mem_of_mem_take hx))) 51 (by omega)).mono ?_);rintro e w3 ⟨rfl,rfl⟩;exact⟨_,rfl,_,rfl,Qe rfl,Qj [7,8] SV.loc (by omega) (by decide) hJ⟩
     | 6,ho=>
      obtain rfl:=Oj9 ho;have e0:a'.eval (.tmp 8)= .int .i64 (ofB 0 ((s.drop 1).take 4)):=by have h9:=hin 1 8 (by kernel_rfl) (by kernel_rfl);exact h9.1.trans (Qc _ h9.2 rfl)
      have e1:a'.eval (.tmp 10)= .int .i64 (ofB 0 ((s.drop 5).take 8)):=by have h9:=hin 3 10 (by kernel_rfl) (by kernel_rfl);exact h9.1.trans (Qc _ h9.2 rfl)
      have e2:a'.eval (.tmp 12)= .int .i64 (ofB 0 ((s.drop 13).take 8)):=by have h9:=hin 5 12 (by kernel_rfl) (by kernel_rfl);exact h9.1.trans (Qc _ h9.2 rfl)
      exact o_bld23 (.tmp 8) (.tmp 10) (.tmp 12) rfl _ _ _ e0 e1 e2 ⟨_,rfl,Qe rfl,Qj [7,8] SV.loc (by omega) (by decide) hJ⟩
     | 7,ho=>
      obtain rfl:=Oj9 ho;exact wp_allocA le0.C QT rfl ⟨_,rfl,QA rfl,QJ (by omega) ⟨hJ.1.alloc _,fun _=>⟨w2.heap.size,rfl,hJ.1.size,fun _=>Blk.new w2 73 _,fun h=>by have h9:l.getD 8 false=true:=h;rw [hnot 8 (by kernel_rfl)] at h9;cases h9⟩⟩⟩
     | 8,ho=>
      obtain rfl:=Oj9 ho;have e0:a'.eval (.tmp 4)=vs 7:=(hin 7 4 (by kernel_rfl) (by kernel_rfl)).1;have e1:a'.eval (.tmp 13)=Qd (leS s).C:=by have h9:=hin 6 13 (by kernel_rfl) (by kernel_rfl);exact h9.1.trans (Qc _ h9.2 rfl)
      obtain⟨p,hp,hge,hz0,_⟩:=hJ.2 (hdep 7 (by kernel_rfl));exact Zh QC (.tmp 4) (.tmp 13) rfl rfl p 0 _ (e0.trans hp) e1 rfl (QV _) ((hz0 hlf).there (by decide)) ⟨undef,rfl,QA rfl,QJ (by omega) ⟨hJ.1.setCells _ _ (by omega),fun _=>⟨p,hp,hge,(fun h=>by cases h),fun _=>(hz0 hlf).put rfl⟩⟩⟩
   intro l_ vs4 V4 hl hJ htold;have t0:vs4 0= .slice (some ⟨b1,1,none⟩) 4 63:=Qc _ (htold 0 (by decide)) rfl;have t1:vs4 1= .int .i64 (ofB 0 ((s.drop 1).take 4)):=Qc _ (htold 1 (by decide)) rfl;have t2:vs4 2= .slice (some ⟨b1,5,none⟩) 8 59:=Qc _ (htold 2 (by decide)) rfl;have t3:vs4 3= .int .i64 (ofB 0 ((s.drop 5).take 8)):=Qc _ (htold 3 (by decide)) rfl;have t4:vs4 4= .slice (some ⟨b1,13,none⟩) 8 51:=Qc _ (htold 4 (by decide)) rfl;have t5:vs4 5= .int .i64 (ofB 0 ((s.drop 13).take 8)):=Qc _ (htold 5 (by decide)) rfl;have t6:vs4 6=Qd (leS s).C:=Qc _ (htold 6 (by decide)) rfl;rw [show (List.range 9).map vs4= [vs4 0,vs4 1,vs4 2,vs4 3,vs4 4,vs4 5,vs4 6,vs4 7,vs4 8] from rfl];simp only [t0,t1,t2,t3,t4,t5,t6,Qz,Act.put,List.setIfInBounds_toArray,List.set_cons_succ,List.set_cons_zero];clear t0 t1 t2 t3 t4 t5 t6 htold;obtain⟨p,ep,hgp,_,hbp⟩:=hJ.2 (hl 7 (by decide));replace hbp:=hbp (hl 8 (by decide));have hb1:b1<W2.heap.size:=((Qa M).at 0 _ rfl).lt;have hb2:b2<W2.heap.size:=((Qa M).at 1 _ rfl).lt;have hwz:=(Qa M).kept.size;replace M:Hid (Mm [] w V4 [(b1,59,u8s s),(b2,73,le0.C),(p,73,(leS s).C)]):=hide (((Qa M).step hJ.1).add hbp (by omega) (fun x hx=>by simp at hx;rcases hx with rfl | rfl <;> simp <;> omega));rw [ep];clear hJ hl ep hgp hbp hb1 hb2 hwz;go_wp2_with (first |(refine Qg QC rfl (.tmp 4) rfl p 0 rfl ((leS s).C) rfl ((Qa M).at 2 _ rfl).range ?_;refine Stp.go ?_))
   constructor
   go_wp2_with (first |(go_at_call 70;refine(Qa (P8 _)).mono ?_;rintro e W21 ⟨rfl,K21⟩;replace M:=hide ((Qa M).step K21);clear K21;refine Stp.go ?_))
   constructor
   go_wp2_with (first |(refine QM row25 (u8s (zs 64)) (zl 64) zero25 5 rfl rfl rfl (.tmp 17) rfl rfl rfl (u8s q) (by rw [Qy];exact hq) (QU _) (by kernel_rfl) (by kernel_rfl) ?_;intro W22 b22 e22 B22 K22;replace M:=hide ((Qa M).new e22 B22 K22);clear e22 B22 K22;refine Stp.go ?_))
   constructor
 · go_wp2_with (first |(refine QG (T:=73) le0.C build23 rfl rfl ?_;refine Stp.go ?_))
   constructor
   go_wp2_with (first |(refine Qh QC rfl (.tmp 2) (.tmp 26) rfl rfl b2 1 (le0.C) rfl rfl rfl (QV _) (Qa M) rfl rfl ?_;intro W23 N23;replace M:Hid (Mm [] w W23 [(b1,59,u8s s),(b2,73,le0.C),(p,73,(leS s).C),(b22,59,u8s q)]):=hide N23;clear N23;refine Stp.go ?_))
   constructor
   go_wp2_with fail
   refine bodyPost_ret (res9 _ b2 le0.C 12 _ rfl rfl rfl ((Qa M).at 1 _ rfl)) rfl ?_;exact⟨rfl,(Qa M).kept⟩
 all_goals
   go_wp2_with (first |(refine Zb row25 (.tmp 1) rfl rfl b1 0 rfl (u8s s) (by rw [Qy];exact hs.len) ((Qa M).at 0 _ rfl).range ?_;refine Stp.go ?_))
   constructor
   go_wp2_with (first |(refine Zb row25 (.tmp 5) rfl rfl b22 0 rfl (u8s q) (by rw [Qy];exact hq) ((Qa M).at 3 _ rfl).range ?_;refine Stp.go ?_))
   constructor
 · go_wp2_with (first |(refine wpNeqG 59 59 guard25 (.tmp 22) (.tmp 23) rfl rfl (u8s s) (u8s q) rfl rfl true ((equal25 _ s q hs.len hq).trans (by rw [he])) ?_;refine Stp.go ?_))
   constructor
   go_wp2_with (first |(refine Qg QC rfl (.tmp 4) rfl p 0 rfl ((leS s).C) rfl ((Qa M).at 2 _ rfl).range ?_;refine Stp.go ?_))
   constructor
   go_wp2_with (first |(refine Qh QC rfl (.tmp 2) (.tmp 27) rfl rfl b2 1 ((leS s).C) rfl rfl rfl (QV _) (Qa M) rfl rfl ?_;intro W23 N23;replace M:Hid (Mm [] w W23 [(b1,59,u8s s),(b2,73,(leS s).C),(p,73,(leS s).C),(b22,59,u8s q)]):=hide N23;clear N23;refine Stp.go ?_))
   constructor
   go_wp2_with fail
   refine bodyPost_ret (res9 _ b2 (leS s).C 0 _ rfl rfl rfl ((Qa M).at 1 _ rfl)) rfl ?_;exact⟨rfl,(Qa M).kept⟩
 go_wp2_with (first |(refine wpNeqG 59 59 guard25 (.tmp 22) (.tmp 23) rfl rfl (u8s s) (u8s q) rfl rfl false ((equal25 _ s q hs.len hq).trans (by rw [he])) ?_;refine Stp.go ?_))
 constructor
 go_wp2_with (first |(refine QG (T:=73) le0.C build23 rfl rfl ?_;refine Stp.go ?_))
 constructor
 go_wp2_with (first |(refine Qh QC rfl (.tmp 2) (.tmp 26) rfl rfl b2 1 (le0.C) rfl rfl rfl (QV _) (Qa M) rfl rfl ?_;intro W23 N23;replace M:Hid (Mm [] w W23 [(b1,59,u8s s),(b2,73,le0.C),(p,73,(leS s).C),(b22,59,u8s q)]):=hide N23;clear N23;refine Stp.go ?_))
 constructor
 go_wp2_with fail
 refine bodyPost_ret (res9 _ b2 le0.C 12 _ rfl rfl rfl ((Qa M).at 1 _ rfl)) rfl ?_;exact⟨rfl,(Qa M).kept⟩
theorem get9 (s:List Int) (w:World) (hs:Byts 64 s):Calls Tryz.prog 121 #[Qd (u8s s)] w fun x w'=>x= .returned (.tuple #[Qd (getL s).1.C,.int .i64 (getL s).2])∧Kept [] w w':=by
 unfold getL;have h8:=fun W=>put8 (leS s) W;have hl:=putL_len (leS s);by_cases hc:(putL (leS s)).2=0
 · by_cases he:s=(putL (leS s)).1
   · rw [if_pos (Prod.ext he.symm hc)];exact get_a_F.2.1 s _ _ w hs hl h8 hc (by simpa using he)
   · rw [if_neg (fun h=>he (by rw [h]))];exact get_a_F.2.2 s _ _ w hs hl h8 hc (by simpa using he)
 · rw [if_neg (fun h=>hc (by rw [h]))];exact get_a_F.1 s _ _ w hs hl h8 hc
theorem wrap_two (n x:Int):wrap64 (wrap64 (n*256)+x)=wrap64 (n*256+x):=by unfold wrap64;omega
end Go.Proofs.YtcfflbafclmheaaGreatDoor.Le
namespace Go.Proofs.YtcfflbafclmheaaGreatDoor.Vi
open Go.RowKit
def I64 (n:Int):Prop:= -9223372036854775808≤n∧n≤9223372036854775807
structure Vw where
 nu:Int
 op:Bool
 fd:Int
 ms:List (Bool×Int)
deriving DecidableEq
structure Vw.Ok (v:Vw):Prop where
 nu:I64 v.nu
 fd:I64 v.fd
 len:v.ms.length=8
 ep:∀m∈v.ms,I64 m.2
structure Byts (n:Nat) (s:List Int):Prop where
 len:s.length=n
 byte:∀x∈s,0≤x∧x<256
def zs (n:Nat):List Int:=List.replicate n 0
theorem zs_byts (n:Nat):Byts n (zs n):=⟨by simp [zs],fun x hx=>by simp [zs] at hx;omega⟩
def QD (m:Bool×Int):List Value:= [.bool m.1,.int .i64 m.2]
def QP (l:List (Bool×Int)):List Value:=(l.map QD).flatten
def vwC (v:Vw):List Value:= .int .i64 v.nu:: .bool v.op:: .int .i64 v.fd::QP v.ms
def no8:List (Bool×Int):=List.replicate 8 (false,0)
def zv:Vw:=⟨0,false,0,no8⟩
def fv:Vw:=⟨0,true,0,no8⟩
theorem no8_ok:∀m∈no8,I64 m.2:=fun m hm=>by simp [no8] at hm;subst hm;exact⟨by decide,by decide⟩
theorem zv_ok:zv.Ok:=⟨⟨by decide,by decide⟩,⟨by decide,by decide⟩,by simp [zv,no8],no8_ok⟩
theorem fv_ok:fv.Ok:=⟨⟨by decide,by decide⟩,⟨by decide,by decide⟩,by simp [fv,no8],no8_ok⟩
theorem Zu (l:List (Bool×Int)):(QP l).length=2*l.length:=by
 induction l with
 | nil=>rfl
 | cons m l ih=>simp only [QP,List.map_cons,List.flatten_cons,List.length_append,List.length_cons] at *;rw [ih];simp [QD];omega
theorem memsC_cons (m:Bool×Int) (l:List (Bool×Int)):QP (m::l)= .bool m.1:: .int .i64 m.2::QP l:=rfl
theorem memsC_app (a b:List (Bool×Int)):QP (a++b)=QP a++QP b:=by simp [QP]
theorem memsC_at (l:List (Bool×Int)):∀(i:Nat) (m:Bool×Int),l[i]?=some m→(QP l)[2*i]?=some (.bool m.1)∧(QP l)[2*i+1]?=some (.int .i64 m.2):=by
 induction l with
 | nil=>intro i m h;simp at h
 | cons x l ih=>
  intro i m h;rw [memsC_cons];cases i with
  | zero=>simp at h;subst h;exact⟨rfl,rfl⟩
  | succ i=>
   have:=ih i m (by simpa using h);exact⟨by rw [show 2*(i+1)=2*i+1+1 by omega,List.getElem?_cons_succ,List.getElem?_cons_succ];exact this.1,by rw [show 2*(i+1)+1=2*i+1+1+1 by omega,List.getElem?_cons_succ,List.getElem?_cons_succ];exact this.2⟩
theorem memsC_one (l:List (Bool×Int)):∀v∈QP l,v.oneCell'=true:=by
 induction l with
 | nil=>intro v hv;simp [QP] at hv
 | cons m l ih=>
  intro v hv;rw [memsC_cons] at hv;simp only [List.mem_cons] at hv;rcases hv with rfl | rfl | hv
  · rfl
  · rfl
  · exact ih v hv
theorem Ze (m:Bool×Int):∀v∈QD m,v.oneCell'=true:=by
 intro v hv;simp only [QD,List.mem_cons,List.mem_nil_iff,or_false] at hv;rcases hv with rfl | rfl <;> rfl
theorem Qk {v:Vw} (h:v.ms.length=8):(vwC v).length=19:=by simp [vwC,Zu,h]
theorem Ql (v:Vw):∀u∈vwC v,u.oneCell'=true:=by
 intro u hu;simp only [vwC,List.mem_cons] at hu;rcases hu with rfl | rfl | rfl | hu
 iterate 3 rfl
 exact memsC_one _ u hu
theorem vwC_at {v:Vw} {i:Nat} {m:Bool×Int} (h:v.ms[i]?=some m):(vwC v)[3+2*i]?=some (.bool m.1)∧(vwC v)[3+2*i+1]?=some (.int .i64 m.2):=by
 have:=memsC_at v.ms i m h;unfold vwC;exact⟨by rw [show 3+2*i=2*i+1+1+1 by omega];simpa using this.1,by rw [show 3+2*i+1=2*i+1+1+1+1 by omega];simpa using this.2⟩
theorem QC:Row 26 2:=⟨_,Tryz.underlying26,rfl,by kernel_rfl⟩
theorem row24:Row 27 16:=⟨_,Tryz.underlying27,rfl,by kernel_rfl⟩
theorem Qn:Row 29 19:=⟨_,Tryz.underlying29,rfl,by kernel_rfl⟩
theorem Zc:Row 59 64:=⟨_,Tryz.underlying59,rfl,by kernel_rfl⟩
theorem QT (w:World):(Instr.alloc 26 true (.tuple #[])).run Tryz.prog w= .ok (P0 w.heap.size) (w.alloc (.cells (QD (false,0)).toArray 26)):=by kernel_rfl
theorem QE (w:World):(Instr.alloc 29 true (.tuple #[])).run Tryz.prog w= .ok (P0 w.heap.size) (w.alloc (.cells (vwC zv).toArray 29)):=by kernel_rfl
theorem ZI (w:World):(Instr.alloc 59 true (.tuple #[])).run Tryz.prog w= .ok (P0 w.heap.size) (w.alloc (.cells (u8s (zs 64)).toArray 59)):=by kernel_rfl
theorem Zi (w:World):(Instr.build 29 #[]).run Tryz.prog w= .ok (Qd (vwC zv)) w:=by kernel_rfl
theorem build28 (w:World):(Instr.build 59 #[]).run Tryz.prog w= .ok (Qd (u8s (zs 64))) w:=by kernel_rfl
theorem build23 (w:World):(Instr.build 26 #[]).run Tryz.prog w= .ok (Qd (QD (false,0))) w:=by kernel_rfl
theorem build26f (w:World):(Instr.build 29 #[(1,.bool true)]).run Tryz.prog w= .ok (Qd (vwC fv)) w:=by kernel_rfl
theorem build26p (w:World) (n f:Int) (o:Bool):(Instr.build 29 #[(0,.int .i64 n),(1,.bool o),(2,.int .i64 f)]).run Tryz.prog w= .ok (Qd (vwC ⟨n,o,f,no8⟩)) w:=by kernel_rfl
theorem build23p (w:World) (o:Bool) (e:Int):(Instr.build 26 #[(0,.bool o),(1,.int .i64 e)]).run Tryz.prog w= .ok (Qd (QD (o,e))) w:=by kernel_rfl
theorem guard26:Tryz.prog.eqGuardType Tryz.prog.depth 29=false:=by kernel_rfl
theorem guard28:Tryz.prog.eqGuardType Tryz.prog.depth 59=false:=by kernel_rfl
theorem fields26 : (Tryz.prog.fieldsOf 29).toList.map (fun f => (decide (f.name ≠ "_"), f.type, f.offset)) = [(true, 2, 0), (true, 4, 1), (true, 3, 2), (true, 27, 3)] := by kernel_rfl
theorem fields23 : (Tryz.prog.fieldsOf 26).toList.map (fun f => (decide (f.name ≠ "_"), f.type, f.offset)) = [(true, 4, 0), (true, 2, 1)] := by kernel_rfl
theorem str26:Tryz.prog.underlying 29=some (.struct (Tryz.prog.fieldsOf 29)):=by kernel_rfl
theorem str23:Tryz.prog.underlying 26=some (.struct (Tryz.prog.fieldsOf 26)):=by kernel_rfl
theorem part4 (W:World) (vs:Array Value) (o:Nat) (v:Value) (h:vs[o]?=some v):(part 4 vs o).run Tryz.prog W= .ok v W:=by simp [part,isAgg,run_underlying Tryz.underlying4,h]
theorem eq4 (W:World) (d:Nat) (x y:Bool):(Op.equalIn (d+1) 4 (.bool x) (.bool y)).run Tryz.prog W= .ok (decide (x=y)) W:=by
 simp [Op.equalIn,Sem.run_bind,run_underlying Tryz.underlying4];cases x <;> cases y <;> rfl
theorem part_agg (W:World) (T n:Nat) (hT:Row T n) (pre vs post:List Value) (o:Nat) (ho:pre.length=o) (hl:vs.length=n):(part T (pre++vs++post).toArray o).run Tryz.prog W= .ok (Qd vs) W:=by
 obtain⟨d,h1,h2,h3⟩:=hT;cases hq:Tryz.prog.info? T with
 | none=>simp [hq] at h3
 | some i=>
  have hs:i.size=n:=by simpa [hq] using h3
  have hagg:(isAgg T).run Tryz.prog W= .ok true W:=by
   unfold isAgg;rw [Sem.run_bind,run_underlying h1 W];cases d <;> simp_all
  have he:((pre++vs++post).toArray.extract o (o+n))=vs.toArray:=by
   subst ho hl;simp [List.extract_toArray,List.extract_eq_take_drop]
  simp [part,Sem.run_bind,hagg,sizeOf,typeInfo,hq,hs,Qd];simpa using he
theorem items_step (W:World) (d T n i o:Nat) (xs ys:Array Value) (is:List Nat) (a b:Value) (c e:Bool) (ho:i*n=o) (pa:(part T xs o).run Tryz.prog W= .ok a W) (pb:(part T ys o).run Tryz.prog W= .ok b W) (he:(Op.equalIn d T a b).run Tryz.prog W= .ok c W) (hf:(Op.eqItems d T n xs ys is).run Tryz.prog W= .ok e W):
  (Op.eqItems d T n xs ys (i::is)).run Tryz.prog W= .ok (c&&e) W:=by
 subst ho;simp only [Op.eqItems,Sem.run_bind,pa,pb,he,Result.andThen_ok];cases c <;> simp [hf]
theorem equal23 (W:World) (d:Nat) (m q:Bool×Int):(Op.equalIn (d+2) 26 (Qd (QD m)) (Qd (QD q))).run Tryz.prog W= .ok (decide (m=q)) W:=by
 have hh:=run_equalIn_struct (P:=Tryz.prog) W (d+1) 26 (QD m).toArray (QD q).toArray str23 (by kernel_rfl);refine hh.trans ?_;generalize hf:(Tryz.prog.fieldsOf 26).toList=fs;have hm:=fields23;rw [hf] at hm
 match fs,hm with
 | [a,g],hm=>
  simp only [List.map_cons,List.map_nil,List.cons.injEq,Prod.mk.injEq,and_true,decide_eq_true_eq] at hm;obtain⟨⟨f1,f2,f3⟩,g1,g2,g3⟩:=hm;have hh:=Zp W (d+1) 4 0 _ _ a [g] _ _ _ _ f1 f2 f3 (part4 W (QD m).toArray 0 (.bool m.1) rfl) (part4 W (QD q).toArray 0 (.bool q.1) rfl) (eq4 W d m.1 q.1)
   (Zp W (d+1) 2 1 _ _ g [] _ _ _ _ g1 g2 g3 (part2 W (QD m).toArray 1 (.int .i64 m.2) rfl) (part2 W (QD q).toArray 1 (.int .i64 q.2) rfl) (eq2 W d m.2 q.2) (fields_nil ..))
  rw [Bool.and_true] at hh;rw [hh];congr 1;rw [Bool.eq_iff_iff];simp [Prod.ext_iff]
theorem mem_part (W:World) (l:List (Bool×Int)) (i:Nat) (h:i<l.length):(part 26 (QP l).toArray (i*2)).run Tryz.prog W= .ok (Qd (QD l[i])) W:=by
 have he:l=l.take i++ [l[i]]++l.drop (i+1):=by simp
 have hc:QP l=QP (l.take i)++QD l[i]++QP (l.drop (i+1)):=by
  conv=>lhs;rw [he]
  rw [memsC_app,memsC_app];simp [QP]
 rw [hc];exact part_agg W 26 2 QC _ _ _ _ (by rw [Zu,List.length_take];omega) rfl
theorem items_mem (W:World) (d n:Nat) (s t:List (Bool×Int)) (hs:s.length=n) (ht:t.length=n):∀is:List Nat,(∀i∈is,i<n)→
  (Op.eqItems (d+2) 26 2 (QP s).toArray (QP t).toArray is).run Tryz.prog W= .ok (decide (∀i∈is,s[i]?=t[i]?)) W:=by
 intro is
 induction is with
 | nil=>intro _;simp [Op.eqItems]
 | cons i is ih=>
  intro hi;have hi0:=hi i (List.mem_cons_self ..);have:=items_step W (d+2) 26 2 i (i*2) _ _ is _ _ _ _ rfl (mem_part W s i (by omega)) (mem_part W t i (by omega)) (equal23 W d _ _) (ih (fun j hj=>hi j (List.mem_cons_of_mem _ hj)));rw [this];congr 1;rw [Bool.eq_iff_iff];simp [show i<s.length by omega,show i<t.length by omega]
theorem Tryz.cells23:Tryz.prog.cellsOf 26=2:=by kernel_rfl
theorem equal24 (W:World) (d:Nat) (s t:List (Bool×Int)) (hs:s.length=8) (ht:t.length=8):(Op.equalIn (d+3) 27 (Qd (QP s)) (Qd (QP t))).run Tryz.prog W= .ok (decide (s=t)) W:=by
 have hi:∃i,Tryz.prog.info? 26=some i:=by
  obtain⟨_,_,_,h3⟩:=QC;cases hq:Tryz.prog.info? 26 with
  | none=>simp [hq] at h3
  | some i=>exact ⟨i,rfl⟩
 obtain⟨i0,hi⟩:=hi;have h:=run_equalIn_array (P:=Tryz.prog) W (d+2) (QP s).toArray (QP t).toArray Tryz.underlying27 hi;rw [Tryz.cells23,items_mem W d 8 s t hs ht (List.range 8) (by simp)] at h;have hd:decide (∀i∈List.range 8,s[i]?=t[i]?)=decide (s=t):=by
  rw [decide_eq_decide];constructor
  · intro h;apply List.ext_getElem?;intro i;by_cases hi:i<8
    · exact h i (by simpa using hi)
    · rw [List.getElem?_eq_none (by omega),List.getElem?_eq_none (by omega)]
  · intro h i _;rw [h]
 rw [hd] at h;exact h
theorem equal26 (W:World) (v u:Vw) (hv:v.ms.length=8) (hu:u.ms.length=8):(Op.equal 29 (Qd (vwC v)) (Qd (vwC u))).run Tryz.prog W= .ok (decide (v=u)) W:=by
 have h:=run_equalIn_struct (P:=Tryz.prog) W 9999 29 (vwC v).toArray (vwC u).toArray str26 (by kernel_rfl);refine h.trans ?_;generalize hf:(Tryz.prog.fieldsOf 29).toList=fs;have hm:=fields26;rw [hf] at hm
 match fs,hm with
 | [f,g,k,l],hm=>
  simp only [List.map_cons,List.map_nil,List.cons.injEq,Prod.mk.injEq,and_true,decide_eq_true_eq] at hm;obtain⟨⟨f1,f2,f3⟩,⟨g1,g2,g3⟩,⟨k1,k2,k3⟩,l1,l2,l3⟩:=hm;have pm:∀v:Vw,v.ms.length=8→(part 27 (vwC v).toArray 3).run Tryz.prog W= .ok (Qd (QP v.ms)) W:=by
   intro v hv;have:=part_agg W 27 16 row24 [.int .i64 v.nu,.bool v.op,.int .i64 v.fd] (QP v.ms) [] 3 rfl (by rw [Zu,hv]);simpa [vwC] using this
  have hh:=Zp W 9999 2 0 _ _ f [g,k,l] _ _ _ _ f1 f2 f3 (part2 W (vwC v).toArray 0 (.int .i64 v.nu) rfl) (part2 W (vwC u).toArray 0 (.int .i64 u.nu) rfl) (eq2 W 9998 v.nu u.nu)
   (Zp W 9999 4 1 _ _ g [k,l] _ _ _ _ g1 g2 g3 (part4 W (vwC v).toArray 1 (.bool v.op) rfl) (part4 W (vwC u).toArray 1 (.bool u.op) rfl) (eq4 W 9998 v.op u.op)
   (Zp W 9999 3 2 _ _ k [l] _ _ _ _ k1 k2 k3 (part3 W (vwC v).toArray 2 (.int .i64 v.fd) rfl) (part3 W (vwC u).toArray 2 (.int .i64 u.fd) rfl) (eq3 W 9998 v.fd u.fd)
   (Zp W 9999 27 3 _ _ l [] _ _ _ _ l1 l2 l3 (pm v hv) (pm u hu) (equal24 W 9996 v.ms u.ms hv hu) (fields_nil ..))))
  rw [Bool.and_true] at hh;rw [hh];congr 1;rw [Bool.eq_iff_iff];cases v;cases u;simp
theorem Tryz.info5:(Tryz.prog.info? 5).map (fun i=>(i.zero,i.size,i.bytes))=some (some (.int .u8 0),1,1):=by kernel_rfl
theorem Tryz.cells5:Tryz.prog.cellsOf 5=1:=by kernel_rfl
theorem eq5 (W:World) (d:Nat) (x y:Int):(Op.equalIn (d+1) 5 (.int .u8 x) (.int .u8 y)).run Tryz.prog W= .ok (decide (x=y)) W:=by
 simp [Op.equalIn,Sem.run_bind,run_underlying Tryz.underlying5];rw [Bool.eq_iff_iff];simp
theorem items_byts (W:World) (d n:Nat) (s t:List Int) (hs:s.length=n) (ht:t.length=n):∀is:List Nat,(∀i∈is,i<n)→
  (Op.eqItems (d+1) 5 1 (u8s s).toArray (u8s t).toArray is).run Tryz.prog W= .ok (decide (∀i∈is,s[i]?=t[i]?)) W:=by
 have h2:∀(xs:Array Value) (j:Nat) (v:Value),xs[j]?=some v→(part 5 xs j).run Tryz.prog W= .ok v W:=by
  intro xs j v hj;simp [part,isAgg,run_underlying Tryz.underlying5,hj]
 intro is
 induction is with
 | nil=>intro _;simp [Op.eqItems]
 | cons i is ih=>
  intro hi;have hi0:=hi i (List.mem_cons_self ..);have h3:(part 5 (u8s s).toArray (i*1)).run Tryz.prog W= .ok (.int .u8 (s[i]'(by omega))) W:=h2 _ _ _ (by simp [u8s,show i<s.length by omega]);have h4:(part 5 (u8s t).toArray (i*1)).run Tryz.prog W= .ok (.int .u8 (t[i]'(by omega))) W:=h2 _ _ _ (by simp [u8s,show i<t.length by omega]);simp only [Op.eqItems,Sem.run_bind,h3,h4,Result.andThen_ok,eq5];by_cases he:s[i]'(by omega)=t[i]'(by omega)
  · have:=ih (fun j hj=>hi j (List.mem_cons_of_mem _ hj));simp [he,this,show i<s.length by omega,show i<t.length by omega]
  · simp [he,show i<s.length by omega,show i<t.length by omega]
theorem equal_byts (W:World) (T n d:Nat) (hu:Tryz.prog.underlying T=some (.array n 5)) (s t:List Int) (hs:s.length=n) (ht:t.length=n):(Op.equalIn (d+2) T (Qd (u8s s)) (Qd (u8s t))).run Tryz.prog W= .ok (decide (s=t)) W:=by
 obtain⟨i0,hi,_⟩:=info_parts Tryz.info5;have h:=run_equalIn_array (P:=Tryz.prog) W (d+1) (u8s s).toArray (u8s t).toArray hu hi;rw [Tryz.cells5,items_byts W d n s t hs ht (List.range n) (by simp)] at h;have hd:decide (∀i∈List.range n,s[i]?=t[i]?)=decide (s=t):=by
  rw [decide_eq_decide];constructor
  · intro h;apply List.ext_getElem?;intro i;by_cases hi:i<n
    · exact h i (by simpa using hi)
    · rw [List.getElem?_eq_none (by omega),List.getElem?_eq_none (by omega)]
  · intro h i _;rw [h]
 rw [hd] at h;exact h
theorem equal28 (W:World) (s t:List Int) (hs:s.length=64) (ht:t.length=64):(Op.equal 59 (Qd (u8s s)) (Qd (u8s t))).run Tryz.prog W= .ok (decide (s=t)) W:=equal_byts W 59 64 9998 Tryz.underlying59 s t hs ht
structure First (w:World):Prop where
 at0:w.rangeAt 0 0 (vwC fv)
 lt:0<w.heap.size
theorem First.kept {w w':World} (h:First w) (hk:Kept [] w w'):First w':=
 ⟨fun j v hj=>by have:=h.at0 j v hj;exact hk.cell this (by simp),Nat.lt_of_lt_of_le h.lt hk.size⟩
theorem First.keptX {w w':World} {X:List Nat} (h:First w) (hk:Kept X w w') (hX:0∉X):First w':=
 ⟨fun j v hj=>by have:=h.at0 j v hj;exact hk.cell this hX,Nat.lt_of_lt_of_le h.lt hk.size⟩
open Go.RowKit
def isNo (n:Int):Bool:=decide (0≤n∧n<8)
def isEp (n:Int):Bool:=decide (1≤n∧n≤2147483647)
def Vw.mem (v:Vw) (n:Int):Bool×Int:=v.ms.getD n.toNat (false,0)
def Vw.isIn (v:Vw) (n:Int):Bool:=isNo n&&(v.mem n).1
theorem isEpoch36 (n:Int) (w:World):Calls Tryz.prog 138 #[.int .i64 n] w fun e w'=>e= .returned (.bool (isEp n))∧w'=w:=by
 by_cases h1:1≤n
 · go_enter Tryz.func138,Tryz.ntmps138
   go_wp2_with fail
   go_ret
   exact⟨QB (by simp [isEp];omega),rfl⟩
 · go_enter Tryz.func138,Tryz.ntmps138
   go_wp2_with fail
   go_ret
   exact⟨QB (by simp [isEp];omega),rfl⟩
theorem Zo (n:Int) (w:World):Calls Tryz.prog 137 #[.int .i64 n] w fun e w'=>e= .returned (.bool (isNo n))∧w'=w:=by
 by_cases h1:0≤n
 · go_enter Tryz.func137,Tryz.ntmps137
   go_wp2_with fail
   go_ret
   exact⟨QB (by simp [isNo];omega),rfl⟩
 · go_enter Tryz.func137,Tryz.ntmps137
   go_wp2_with fail
   go_ret
   exact⟨QB (by simp [isNo];omega),rfl⟩
theorem mem_at {v:Vw} (h:v.ms.length=8) {n:Int} (h0:0≤n) (h8:n<8):v.ms[n.toNat]?=some (v.mem n):=by
 unfold Vw.mem;rw [List.getD_eq_getElem?_getD,List.getElem?_eq_getElem (by omega)];rfl
theorem _root_.Go.Proofs.YtcfflbafclmheaaGreatDoor.Blk.mem {W:World} {b:Nat} {v:Vw} (h:Blk W b 29 (vwC v)) (hv:v.ms.length=8) {n:Int} (h0:0≤n) (h8:n<8):W.cell? ⟨b,3+n.toNat*2,none⟩=some (.bool (v.mem n).1)∧W.cell? ⟨b,3+n.toNat*2+1,none⟩=some (.int .i64 (v.mem n).2):=by
 have:=vwC_at (mem_at hv h0 h8);rw [Nat.mul_comm] at this;exact⟨Qb h _ _ this.1,Qb h _ _ this.2⟩
theorem isIn35 (v:Vw) (n:Int) (w:World) (hv:v.ms.length=8):Calls Tryz.prog 141 #[Qd (vwC v),.int .i64 n] w fun e w'=>e= .returned (.bool (v.isIn n))∧Kept [] w w':=by
 unfold Vw.isIn;by_cases hn:0≤n∧n<8
 · rw [show isNo n=true by simp [isNo];omega];obtain⟨h0,h8⟩:=hn;go_enter Tryz.func141,Tryz.ntmps141
   go_wp2_with (
    first
    |(refine Qp rfl (.tmp 0) rfl (vwC v) rfl ?_;intro W1 b1 e1 B1 K1;obtain⟨c0,c1⟩:=Blk.mem B1 hv h0 h8;have KK:=hide K1;have pn:=hide (Zo n W1);rw [show isNo n=true by simp [isNo];omega] at pn;clear e1 B1 K1 c1)
    |(go_at_call 137;refine(Qa pn).mono ?_;rintro e w' ⟨rfl,rfl⟩;clear pn))
   go_ret
   exact⟨rfl,Qa KK⟩
 · have hf:isNo n=false:=by simp [isNo];omega
   rw [hf];clear hn;go_enter Tryz.func141,Tryz.ntmps141
   go_wp2_with (
    first
    |(refine Qp rfl (.tmp 0) rfl (vwC v) rfl ?_;intro W1 b1 e1 B1 K1;have KK:=hide K1;have pn:=hide (Zo n W1);rw [hf] at pn;clear e1 B1 K1)
    |(go_at_call 137;refine(Qa pn).mono ?_;rintro e w' ⟨rfl,rfl⟩;clear pn))
   go_ret
   exact⟨rfl,Qa KK⟩
end Go.Proofs.YtcfflbafclmheaaGreatDoor.Vi
