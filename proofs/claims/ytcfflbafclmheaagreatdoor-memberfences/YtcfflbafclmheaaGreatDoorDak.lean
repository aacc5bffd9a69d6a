/-
  Texts of the walks of member, shortened.
-/
import Derived.Test.YtcfflbafclmheaaGreatDoorDaj
import Derived.Test.YtcfflbafclmheaaGreatDoorDah
set_option maxRecDepth 100000
set_option maxHeartbeats 100000000
set_option linter.unusedSimpArgs false
namespace Go.Proofs.YtcfflbafclmheaaGreatDoor.Vi
open Go.RowKit
def be:Nat→Int→List Int
 | 0,_=> []
 | k+1,n=>be k (n/256)++ [n%256]
theorem ZV:∀(k:Nat) (n:Int),(be k n).length=k
 | 0,_=>rfl
 | k+1,n=>by rw [be,List.length_append,ZV k];rfl
theorem be_byte:∀(k:Nat) (n:Int),∀x∈be k n,0≤x∧x<256
 | 0,_=>by simp [be]
 | k+1,n=>by
  intro x hx;rw [be] at hx;rcases List.mem_append.1 hx with h | h
  · exact be_byte k _ x h
  · simp at h;omega
theorem u8s_set (l:List Int) (i:Nat) (x:Int):(u8s l).set i (.int .u8 x)=u8s (l.set i x):=by simp [u8s,List.map_set]
theorem set_at (A B:List Int) (x y:Int) (n:Nat) (h:A.length=n):(A++x::B).set n y=A++y::B:=by
 subst h;rw [List.set_append_right _ _ (Nat.le_refl _)];simp
section
variable {ops:Array Oper} {rest:List Oper} {op:Oper} {a:Act} {w:World} {Q:Exit→Act→World→Prop}
theorem ZT {T:Nat} (hs:(Tryz.prog.info? T).map (·.size)=some 1) (hgd:op.guard=none) (x y:Operand) (ho:op.op= .store T x y) (hd:op.dst=none) (b off:Nat) (v:Value) (h1:One v) (hx:a.eval x= .pointer (some ⟨b,off,none⟩)) (hy:a.eval y=v) {TT:Nat} {us:List Value} (hB:Blk w b TT us) (hl:off<us.length)
  (h:∀W,Blk W b TT (us.set off v)→Kept [b] w W→wpList Tryz.prog ops Q rest a W):wpList Tryz.prog ops Q (op::rest) a w:=
 wpList_plain hgd fun K hK=>by
  have hst:=storeVar1 hs hB hl v h1.1 h1.2;unfold Oper.wp execOp;simp only [ho,hx,hy,Instr.storeAt,Instr.sureAddr,Sem.run_bind,Sem.run_pure,Result.andThen_ok,hst];refine hK _ _ ?_;rw [hd];exact h _ (hB.set v) ((Kept.refl _ _).setCell (by simp) v)
end
theorem epoch33 (b:Nat) (n:Nat) (w:World) (hn:n<8):Calls Tryz.prog 156 #[.slice (some ⟨b,0,none⟩) 64 64,.int .i64 n] w fun e w'=>e= .returned (.slice (some ⟨b,12+4*n,none⟩) 4 (52-4*n))∧w'=w:=by
 have h1:(n:Int)<8:=by omega
 have h0:0≤(n:Int):=by omega
 go_enter Tryz.func156,Tryz.ntmps156
 go_wp2_with fail
 go_ret
 refine⟨?_,rfl⟩;show Ending.returned (Value.slice _ (12+4*n+4-(12+4*n)) (64-(12+4*n)))=_;rw [show 12+4*n+4-(12+4*n)=4 by omega,show 64-(12+4*n)=52-4*n by omega]
theorem put32 (b k o:Nat) (n:Int) (pre mid post:List Int) (w:World) (hB:Blk w b 59 (u8s (pre++mid++post))) (hp:pre.length=o) (hm:mid.length=k) (c:Nat) (hk:k≤8) (hn:I64 n):Calls Tryz.prog 157 #[.slice (some ⟨b,o,none⟩) k c,.int .i64 n] w fun e w'=>e= .returned (.tuple #[])∧Blk w' b 59 (u8s (pre++be k n++post))∧Kept [b] w w':=by
 have HB:=hide hB;have HK:=hide (Kept.refl [b] w);have hkI:(k:Int)≤8:=by omega
 have HP:=hide hp;have HM:=hide hm;have HN:=hide hn;clear hB hp hm hn;go_enter Tryz.func157,Tryz.ntmps157
 go_wp2_with fail
 go_loopw [1,4] (fun xn xi wr=>∃(j:Nat) (q:Int) (tl:List Int),j≤k∧xn= .int .i64 q∧xi= .int .i64 ((j:Int)-1)∧Hid (I64 q)∧Hid (be k n=be j q++tl)∧Hid (Blk wr b 59 (u8s (pre++(mid.take j++tl)++post)))∧Hid (Kept [b] w wr)) (fun _ i _=>(intOf i+1).toNat)
 case atStart=>exact ⟨k,n,[],Nat.le_refl _,rfl,rfl,HN,by show _=_;simp,by rw [List.take_of_length_le (by rw [Qa HM];exact Nat.le_refl _),List.append_nil];exact HB,HK⟩
 case round=>
  clear HB HK;obtain⟨j,q,tl,hj,rfl,rfl,HQ,HE,HB,HK⟩:=hrel;cases j with
  | zero=>
   have hd:decide (0≤((0:Nat):Int)-1)=false:=by decide
   go_wp2_with fail
   go_end0
   have h9:=Qa HE;have h8:=Qa HB;rw [be,List.nil_append] at h9;rw [List.take_zero,List.nil_append] at h8;rw [h9];exact⟨rfl,h8,Qa HK⟩
  | succ j=>
   have e1:((j+1:Nat):Int)-1=(j:Int):=by omega
   rw [e1];clear e1;have hjk:(j:Int)<(k:Int):=by omega
   obtain⟨x,hx⟩:∃x,mid[j]?=some x:=⟨_,List.getElem?_eq_getElem (by have:=Qa HM;omega)⟩;have hl:=Qa HB;have hlen:(pre++mid.take j).length=o+j:=by
    rw [List.length_append,List.length_take,Qa HP,Qa HM];omega
   have he:pre++(mid.take (j+1)++tl)++post=(pre++mid.take j)++x::(tl++post):=by
    rw [List.take_add_one,hx];simp
   rw [he] at hl;have HB2:=hide hl;have HLT:Hid (o+j<(u8s ((pre++mid.take j)++x::(tl++post))).length):=by
    show _<_;rw [Qy,List.length_append,hlen];simp
   have HS:Hid ((u8s ((pre++mid.take j)++x::(tl++post))).set (o+j) (.int .u8 (q%256))=u8s (pre++(mid.take j++(q%256)::tl)++post)):=by
    show _=_;rw [u8s_set,set_at _ _ _ _ _ hlen];simp
   have hq:=Qa HQ;obtain⟨q1,q2⟩:=hq;have HQ2:Hid (I64 (q/256)):=by constructor <;> omega
   have HE2:Hid (be k n=be j (q/256)++(q%256::tl)):=by
    show _=_;rw [Qa HE,be];simp
   clear hx hl hlen he HB HE HQ;go_wp2_with (first |(refine ZT size5 (by rfl) (.tmp 16) (.tmp 15) (by rfl) (by rfl) b (o+j) (.int .u8 (q%256)) ⟨rfl,rfl⟩ (by rfl) (by rfl) (Qa HB2) (Qa HLT) ?_;intro W9 B9 K9;rw [Qa HS] at B9;have HB9:=hide B9;have HK9:Hid (Kept [b] w W9):=(Qa HK).trans K9;clear B9 K9;refine Stp.go ?_))
   constructor
   go_wp2_with fail
   go_roundw
   case rel=>exact ⟨j,q/256,q%256::tl,by omega,rfl,rfl,HQ2,HE2,HB9,HK9⟩
   case measure=>simp [intOf]
def ofB:Int→List Int→Int
 | n,[]=>n
 | n,x::l=>ofB (wrap64 (n*256+x)) l
theorem w64_i (n:Int):I64 (wrap64 n):=by unfold wrap64;constructor <;> omega
theorem or_byte (q x:Int) (h0:0≤x) (h1:x<256):bits BinOp.or IntKind.i64 (wrap64 (q*256)) x=wrap64 (q*256+x):=by
 have hx:(BitVec.ofInt 64 x).toNat=x.toNat:=by rw [BitVec.toNat_ofInt];omega
 obtain⟨m,hm⟩:∃m:Nat,(BitVec.ofInt 64 (wrap64 (q*256))).toNat=2^8*m∧((2^8*m:Nat):Int)=(q*256)%18446744073709551616:=by
  refine⟨(q%72057594037927936).toNat,?_,?_⟩
  · rw [BitVec.toNat_ofInt];unfold wrap64;omega
  · omega
 show IntKind.i64.wrap ((BitVec.ofInt 64 (wrap64 (q*256)) ||| BitVec.ofInt 64 x).toNat:Int)=_;rw [BitVec.toNat_or,hx,hm.1,← Nat.two_pow_add_eq_or_of_lt (by omega),IntKind.wrap_i64];have:=hm.2;unfold wrap64;omega
theorem number41 (b k o:Nat) (pre mid post:List Int) (w:World) (hB:Blk w b 59 (u8s (pre++mid++post))) (hp:pre.length=o) (hm:mid.length=k) (hy:∀x∈mid,0≤x∧x<256) (c:Nat) (hk:k≤8):Calls Tryz.prog 155 #[.slice (some ⟨b,o,none⟩) k c] w fun e w'=>e= .returned (.int .i64 (ofB 0 mid))∧w'=w:=by
 have HB:=hide hB;have hkI:(k:Int)≤8:=by omega
 have HP:=hide hp;have HM:=hide hm;have HY:=hide hy;clear hB hp hm hy;go_enter Tryz.func155,Tryz.ntmps155
 go_wp2_with fail
 go_loopw [3,8] (fun xn xi wr=>∃(j:Nat) (q:Int),j≤k∧xn= .int .i64 q∧xi= .int .i64 j∧Hid (I64 q)∧Hid (ofB 0 mid=ofB q (mid.drop j))∧Hid (wr=w)) (fun _ i _=>k-(intOf i).toNat)
 case atStart=>exact ⟨0,0,by omega,rfl,rfl,⟨by decide,by decide⟩,by show _=_;simp,rfl⟩
 case round=>
  obtain⟨j,q,hj,rfl,rfl,HQ,HE,HW⟩:=hrel;by_cases hlt:j<k
  · obtain⟨x,hx⟩:∃x,mid[j]?=some x:=⟨_,List.getElem?_eq_getElem (by have:=Qa HM;omega)⟩;have hjk:(j:Int)<(k:Int):=by omega
    have hd:decide ((j:Int)<(k:Int))=true:=by simpa using hjk
    have hx8:=Qa HY x (List.mem_of_getElem? hx);have hc:wr.cell? ⟨b,o+j,none⟩=some (.int .u8 x):=by
     rw [Qa HW,(Qa HB).cell];simp only [u8s,List.getElem?_map];rw [List.append_assoc,List.getElem?_append_right (by have:=Qa HP;omega),Qa HP,Nat.add_sub_cancel_left,List.getElem?_append_left (by have:=Qa HM;omega),hx];rfl
    have hq:=Qa HQ;obtain⟨q1,q2⟩:=hq;obtain⟨x1,x2⟩:=hx8;have HO:Hid (bits BinOp.or IntKind.i64 (wrap64 (q*256)) x=wrap64 (q*256+x)):=or_byte q x x1 x2;have HE2:Hid (ofB 0 mid=ofB (wrap64 (q*256+x)) (mid.drop (j+1))):=by
     show _=_;obtain⟨h1,h2⟩:=List.getElem?_eq_some_iff.1 hx;rw [Qa HE,List.drop_eq_getElem_cons h1,h2,ofB]
    clear hx HE;go_wp2_with fail
    go_roundw
    case rel=>exact ⟨j+1,wrap64 (q*256+x),by omega,by rw [Qa HO],by go_num,w64_i _,HE2,HW⟩
    case measure=>simp [intOf];omega
  · have hd:decide ((j:Int)<(k:Int))=false:=by simp;omega
    go_wp2_with fail
    go_ret
    have h9:=Qa HE;rw [List.drop_of_length_le (by have:=Qa HM;omega),ofB] at h9;exact⟨by rw [h9];rfl,Qa HW⟩
open Go.RowKit
theorem cg32 (vs:Array Value) (w:World):(callFunc 157 vs).run Tryz.prog w= .ok (.enter 157 vs) w:=by kernel_rfl
theorem cg33 (vs:Array Value) (w:World):(callFunc 156 vs).run Tryz.prog w= .ok (.enter 156 vs) w:=by kernel_rfl
def QN:Nat→List (Bool×Int)→Nat
 | _,[]=>0
 | i,m::l=>(if m.1 then 2^i else 0)+QN (i+1) l
def epB (l:List (Bool×Int)):List Int:=(l.map (fun m=>be 4 m.2)).flatten
theorem epB_len (l:List (Bool×Int)):(epB l).length=4*l.length:=by
 induction l with
 | nil=>rfl
 | cons m l ih=>simp only [epB,List.map_cons,List.flatten_cons,List.length_append,ZV,List.length_cons] at *;omega
theorem epB_app (a b:List (Bool×Int)):epB (a++b)=epB a++epB b:=by simp [epB]
theorem bitF_take:∀(l:List (Bool×Int)) (i j:Nat) (m:Bool×Int),l[j]?=some m→QN i (l.take (j+1))=QN i (l.take j)+(if m.1 then 2^(i+j) else 0):=by
 intro l
 induction l with
 | nil=>intro i j m h;simp at h
 | cons x l ih=>
  intro i j m h;cases j with
  | zero=>simp at h;subst h;simp [QN]
  | succ j=>
   have:=ih (i+1) j m (by simpa using h);rw [List.take_succ_cons,List.take_succ_cons,QN,QN,this,show i+1+j=i+(j+1) by omega];omega
theorem bitF_lt:∀(l:List (Bool×Int)) (i:Nat),QN i l+2^i≤2^(i+l.length):=by
 intro l
 induction l with
 | nil=>intro i;simp [QN]
 | cons m l ih=>
  intro i;have:=ih (i+1);have h2:2^(i+1)=2*2^i:=by rw [Nat.pow_succ];omega
  rw [QN,List.length_cons,show i+(l.length+1)=i+1+l.length by omega];split <;> omega
def QR (o f A:Int) (n:Int) (l:List (Bool×Int)) (z:Nat):List Int:= [193,o,f,A]++be 8 n++epB l++zs z
def secV (v:Vw):List Int:=QR (if v.op then 1 else 0) (v.fd%256) (QN 0 v.ms) v.nu v.ms 20
theorem Zj (o f A n:Int) (l:List (Bool×Int)) (z:Nat):(QR o f A n l z).length=12+4*l.length+z:=by
 simp [QR,ZV,epB_len,zs];omega
@[reducible] def SP (w:World) (mk:List Int→List (Nat×Nat×List Value)) (S0 S1:List Int) (k:Nat) (d:Nat→Bool) (_:Nat→Value) (W:World):Prop:=
 ∃S,Mm w W (mk S)∧(d k=false→S=S0)∧(d k=true→S=S1)
theorem SP.loc {w:World} {mk:List Int→List (Nat×Nat×List Value)} {S0 S1:List Int} {k:Nat} :∀d d' vs vs' W,(∀i∈ [k],d i=d' i∧vs i=vs' i)→SP w mk S0 S1 k d vs W→SP w mk S0 S1 k d' vs' W:=by
 intro d d' vs vs' W H h;have e0:=(H k (by simp)).1;unfold SP at h⊢;rw [← e0];exact h
@[reducible] def SQ (w:World) (mk:List Int→List (Nat×Nat×List Value)) (S0 S1:List Int) (d:Nat→Bool) (_:Nat→Value) (W:World):Prop:=
 ∃S,Mm w W (mk S)∧(d 6=false→S=S0)∧(d 6=true→S=S1)∧(d 6=true→d 1=true)∧(d 4=true→d 1=true)
theorem SQ.loc {w:World} {mk:List Int→List (Nat×Nat×List Value)} {S0 S1:List Int} :∀d d' vs vs' W,(∀i∈ [1,4,6],d i=d' i∧vs i=vs' i)→SQ w mk S0 S1 d vs W→SQ w mk S0 S1 d' vs' W:=by
 intro d d' vs vs' W H h;have e0:=(H 6 (by simp)).1;have e1:=(H 1 (by simp)).1;have e2:=(H 4 (by simp)).1;unfold SQ at h⊢;rw [← e0,← e1,← e2];exact h
section
variable {o:Oper} {a:Act} {w:World} {K:Act→World→Prop} {Q:Exit→Act→World→Prop}
theorem o_idx28 (x:Operand) (c:Nat) (hc:c<64) (ho:o.op= .indexAddr 59 x (.const (.int .i64 (c:Int)))) (b:Nat) (hx:a.eval x=P0 b) (h:K (a.put o.dst (.pointer (some ⟨b,c,none⟩))) w):o.wp Tryz.prog a w K Q:=by
 have hc2:(c:Int)<64:=by omega
 unfold Oper.wp execOp;simp only [ho,hx];simp [go_sem,Act.eval,hc2];exact h
theorem o_sl28 (x:Operand) (ho:o.op= .slice 59 x (some (.const (.int .i64 4))) (some (.const (.int .i64 12))) none) (b:Nat) (hx:a.eval x=P0 b) (h:K (a.put o.dst (.slice (some ⟨b,4,none⟩) 8 60)) w):o.wp Tryz.prog a w K Q:=by
 unfold Oper.wp execOp;simp only [ho,hx];simp [go_sem,Act.eval];exact h
theorem o_all28 (x:Operand) (ho:o.op= .slice 59 x none none none) (b:Nat) (hx:a.eval x=P0 b) (h:K (a.put o.dst (.slice (some ⟨b,0,none⟩) 64 64)) w):o.wp Tryz.prog a w K Q:=by
 unfold Oper.wp execOp;simp only [ho,hx];simp [go_sem];exact h
theorem o_fld26a (x:Operand) (ho:o.op= .fieldAddr 29 x 0) (b:Nat) (hx:a.eval x=P0 b) (h:K (a.put o.dst (.pointer (some ⟨b,0,none⟩))) w):o.wp Tryz.prog a w K Q:=by
 unfold Oper.wp execOp;simp only [ho,hx];simp [go_sem];exact h
theorem o_fld23_1 (x:Operand) (ho:o.op= .fieldAddr 26 x 1) (b:Nat) (hx:a.eval x=P0 b) (h:K (a.put o.dst (.pointer (some ⟨b,1,none⟩))) w):o.wp Tryz.prog a w K Q:=by
 unfold Oper.wp execOp;simp only [ho,hx];simp [go_sem];exact h
theorem o_shl1 (y:Operand) (ho:o.op= .binOp .shl 5 (.const (.int .u8 1)) y 3) (j:Nat) (hj:j<8) (hy:a.eval y= .int .i64 j) (h:K (a.put o.dst (.int .u8 ((2^j:Nat):Int))) w):o.wp Tryz.prog a w K Q:=by
 unfold Oper.wp execOp;simp only [ho,hy];rcases (show j=0∨j=1∨j=2∨j=3∨j=4∨j=5∨j=6∨j=7 by omega) with rfl | rfl | rfl | rfl | rfl | rfl | rfl | rfl
 all_goals
  simp [go_sem,Act.eval] at h⊢;exact h
theorem or_bit (A j:Nat) (hA:A<2^j) (hj:j<8):bits BinOp.or IntKind.u8 (A:Int) ((2^j:Nat):Int)=((A+2^j:Nat):Int):=by
 have h2:2^j≤128:=by
  rcases (show j=0∨j=1∨j=2∨j=3∨j=4∨j=5∨j=6∨j=7 by omega) with rfl | rfl | rfl | rfl | rfl | rfl | rfl | rfl <;> decide
 have ha:(BitVec.ofInt 8 (A:Int)).toNat=A:=by rw [BitVec.toNat_ofInt];omega
 have hb:(BitVec.ofInt 8 ((2^j:Nat):Int)).toNat=2^j:=by rw [BitVec.toNat_ofInt];omega
 show IntKind.u8.wrap ((BitVec.ofInt 8 (A:Int) ||| BitVec.ofInt 8 ((2^j:Nat):Int)).toNat:Int)=_;have hor:=Nat.two_pow_add_eq_or_of_lt hA 1;rw [Nat.mul_one] at hor;rw [BitVec.toNat_or,ha,hb,Nat.or_comm,← hor];have key:∀n:Nat,n<256→IntKind.u8.wrap (n:Int)=(n:Int):=by
  intro n hn;simp [IntKind.wrap,IntKind.bits,IntKind.signed];omega
 rw [key _ (by omega),Nat.add_comm]
theorem o_or8 (x y:Operand) (ho:o.op= .binOp .or 5 x y 5) (A j:Nat) (hA:A<2^j) (hj:j<8) (hx:a.eval x= .int .u8 (A:Int)) (hy:a.eval y= .int .u8 ((2^j:Nat):Int)) (h:K (a.put o.dst (.int .u8 ((A+2^j:Nat):Int))) w):o.wp Tryz.prog a w K Q:=by
 rw [← or_bit A j hA hj] at h;unfold Oper.wp execOp;simp only [ho,hx,hy];simp [go_sem] at h⊢;exact h
theorem o_st5 (x y:Operand) (ho:o.op= .store 5 x y) (b i TT:Nat) (us:List Value) (n:Int) (hx:a.eval x= .pointer (some ⟨b,i,none⟩)) (hy:a.eval y= .int .u8 n) (hB:Blk w b TT us) (hi:i<us.length)
  (h:∀W,Blk W b TT (us.set i (.int .u8 n))→Kept [b] w W→K (a.put o.dst undef) W):o.wp Tryz.prog a w K Q:=by
 have hst:=storeVar1 size5 hB hi (.int .u8 n) rfl rfl;unfold Oper.wp execOp;simp only [ho,hx,hy,Instr.storeAt,Instr.sureAddr,Sem.run_bind,Sem.run_pure,Result.andThen_ok,hst];exact h _ (hB.set (.int .u8 n)) ((Kept.refl _ _).setCell (by simp) _)
end
open Go.RowKit
theorem Mm.drew {w0 W:World} {bs:List (Nat×Nat×List Value)} (h:Mm w0 W bs):Mm w0 W.drew bs:=⟨h.kept.drew,⟨h.first.at0,h.first.lt⟩,h.first0,fun x hx=>⟨(h.blk x hx).1.drew,(h.blk x hx).2⟩,h.nd⟩
theorem Mm.sec {w0 W:World} {bs:List (Nat×Nat×List Value)} (h:Mm w0 W bs) {w1:World} (i:Nat) {b:Nat} {us vs:List Value} (hi:bs[i]?=some (b,59,us)) (hB:Blk w1 b 59 vs) (hK:Kept [b] W w1):Mm w0 w1 (bs.set i (b,59,vs)):=h.mut i hi hK hB
theorem secL_cut (o f A n:Int) (l:List (Bool×Int)) (j:Nat) (h:j<8):QR o f A n l (52-4*j)=([193,o,f,A]++be 8 n++epB l)++zs 4++zs (48-4*j):=by
 unfold QR;rw [show zs (52-4*j)=zs 4++zs (48-4*j) by simp only [zs,List.replicate_append_replicate];congr 1;omega];simp
theorem secL_next (o f A n e:Int) (l:List (Bool×Int)) (m:Bool) (j:Nat) (h:j<8): [193,o,f,A]++be 8 n++epB l++be 4 e++zs (48-4*j)=QR o f A n (l++ [(m,e)]) (52-4*(j+1)):=by
 unfold QR;rw [epB_app,show 52-4*(j+1)=48-4*j by omega];simp [epB]
set_option linter.unusedVariables false in
theorem put_true_F:(∀(v:Vw) (w:World) (hF:First w) (hok:v.Ok) (hm:v.may=true) (hq:decide (v=fv)=false) (hop:v.op=true) (ov:Int) (hov:ov=1),Calls Tryz.prog 148 #[Qd (vwC v)] w fun e w'=>e= .returned (.tuple #[Qd (u8s (QR ov (v.fd%256) (QN 0 v.ms:Nat) v.nu v.ms 20)),.int .i64 0])∧Kept [] w w')∧(∀(v:Vw) (w:World) (hF:First w) (hok:v.Ok) (hm:v.may=true) (hq:decide (v=fv)=false) (hop:v.op=false) (ov:Int) (hov:ov=0),Calls Tryz.prog 148 #[Qd (vwC v)] w fun e w'=>e= .returned (.tuple #[Qd (u8s (QR ov (v.fd%256) (QN 0 v.ms:Nat) v.nu v.ms 20)),.int .i64 0])∧Kept [] w w'):=by
 refine⟨fun v w hF hok hm hq hop ov hov=> ?_,fun v w hF hok hm hq hop ov hov=> ?_⟩;have P12:∀W,First W→Hid (Calls Tryz.prog 136 #[Qd (vwC v)] W fun e w'=>e= .returned (.bool true)∧Kept [] W w'):=fun W hW=>hide (by have:=may12 v W hW hok.len;rw [hm] at this;exact this);have HNU:=hide hok.nu;have HEP:=hide hok.ep;have HOV:=hide hov;clear hov
 rotate_left
 have P12:∀W,First W→Hid (Calls Tryz.prog 136 #[Qd (vwC v)] W fun e w'=>e= .returned (.bool true)∧Kept [] W w'):=fun W hW=>hide (by have:=may12 v W hW hok.len;rw [hm] at this;exact this);have HNU:=hide hok.nu;have HEP:=hide hok.ep;have HOV:=hide hov;clear hov
 rotate_left
 all_goals
  go_enter Tryz.func148,Tryz.ntmps148
  have M:Hid (Mm w w []):=hide (Mm.init hF);go_wp2_with (first |(refine Qp rfl (.tmp 0) rfl (vwC v) rfl ?_;intro W1 b1 e1 B1 K1;replace M:=hide ((Qa M).new e1 B1 K1);clear e1 B1 K1;refine Stp.go ?_))
  constructor
  go_wp2_with (first |(refine Qv (u8s (zs 64)) ZI 2 rfl rfl rfl ?_;intro W2 b2 e2 B2 K2;replace M:=hide ((Qa M).new e2 B2 K2);clear e2 B2 K2;refine Stp.go ?_))
  constructor
  go_wp2_with (first |(refine Qv (u8s (zs 64)) ZI 4 rfl rfl rfl ?_;intro W3 b3 e3 B3 K3;replace M:=hide ((Qa M).new e3 B3 K3);clear e3 B3 K3;refine Stp.go ?_))
  constructor
  go_wp2_with (first |(refine Qg Qn rfl (.tmp 1) rfl b1 0 rfl (vwC v) (Qk hok.len) ((Qa M).at 0 _ rfl).range ?_;refine Stp.go ?_))
  constructor
  go_wp2_with (first |(go_at_call 136;refine(Qa (P12 _ (Qa M).first)).mono ?_;rintro e W4 ⟨rfl,K4⟩;replace M:=hide ((Qa M).step K4);clear K4;refine Stp.go ?_))
  constructor
  go_wp2_with (first |(refine Qg Qn rfl (.tmp 1) rfl b1 0 rfl (vwC v) (Qk hok.len) ((Qa M).at 0 _ rfl).range ?_;refine Stp.go ?_))
  constructor
  go_wp2_with (first |(refine Qg Qn rfl (.global 0) rfl 0 0 rfl (vwC fv) rfl (Qa M).first.at0 ?_;refine Stp.go ?_))
  constructor
  go_wp2_with (first |(refine wpEqlA 29 29 guard26 (.tmp 13) (.tmp 14) rfl rfl (vwC v) (vwC fv) rfl rfl false ((equal26 _ v fv hok.len rfl).trans (by rw [hq])) ?_;refine Stp.go ?_))
  constructor
 focus
  go_wp2_with (first |(refine Qo size5 rfl (.tmp 17) (.const (.int .u8 193)) rfl rfl b3 0 2 (.int .u8 193) ⟨rfl,rfl⟩ rfl rfl (Qa M) rfl (by simp [u8s,zs]) ?_;intro W5 N5;replace M:Hid (Mm w W5 [(b1,29,vwC v),(b2,59,u8s (zs 64)),(b3,59,u8s ([193,0,0,0]++zs 60))]):=hide N5;clear N5;have c1:W5.cell? ⟨b1,1,none⟩=some (.bool true):=(by rw [← hop];exact Qb ((Qa M).at 0 _ rfl) 1 _ rfl);refine Stp.go ?_))
  constructor
  go_wp2_with (first |(refine Qo size5 rfl (.tmp 20) (.const (.int .u8 1)) rfl rfl b3 1 2 (.int .u8 1) ⟨rfl,rfl⟩ rfl rfl (Qa M) rfl (by simp [u8s,zs]) ?_;intro W6 N6;replace M:Hid (Mm w W6 [(b1,29,vwC v),(b2,59,u8s (zs 64)),(b3,59,u8s ([193,ov,0,0]++zs 60))]):=(by show Mm w W6 _;rw [Qa HOV];exact N6);clear N6;clear c1;have c2:=Qb ((Qa M).at 0 _ rfl) 2 _ rfl;refine Stp.go ?_))
 rotate_left
 focus
  go_wp2_with (first |(refine Qo size5 rfl (.tmp 17) (.const (.int .u8 193)) rfl rfl b3 0 2 (.int .u8 193) ⟨rfl,rfl⟩ rfl rfl (Qa M) rfl (by simp [u8s,zs]) ?_;intro W5 N5;replace M:Hid (Mm w W5 [(b1,29,vwC v),(b2,59,u8s (zs 64)),(b3,59,u8s ([193,0,0,0]++zs 60))]):=hide N5;clear N5;have c1:W5.cell? ⟨b1,1,none⟩=some (.bool false):=(by rw [← hop];exact Qb ((Qa M).at 0 _ rfl) 1 _ rfl);replace M:Hid (Mm w W5 [(b1,29,vwC v),(b2,59,u8s (zs 64)),(b3,59,u8s ([193,ov,0,0]++zs 60))]):=(by show Mm w W5 _;rw [Qa HOV];exact Qa M);have c2:=Qb ((Qa M).at 0 _ rfl) 2 _ rfl;refine Stp.go ?_))
 rotate_left
 all_goals
  constructor
  go_wp2_with (first |(refine Qo size5 rfl (.tmp 24) (.tmp 23) rfl rfl b3 2 2 (.int .u8 (v.fd%256)) ⟨rfl,rfl⟩ rfl rfl (Qa M) rfl (by simp [u8s,zs]) ?_;intro W7 N7;replace M:Hid (Mm w W7 [(b1,29,vwC v),(b2,59,u8s (zs 64)),(b3,59,u8s ([193,ov,v.fd%256,0]++zs 60))]):=hide N7;clear N7;clear c2;refine Stp.go ?_))
  constructor
  go_wp2_with fail
  refine wp_region_any mixed (QL 4 rfl (by kernel_rfl) [some (.slice (some ⟨b3,4,none⟩) 8 60),some (.pointer (some ⟨b1,0,none⟩)),some (.int .i64 v.nu),none] rfl (by kernel_rfl) (fun l vs W=>(SP w (fun S=> [(b1,29,vwC v),(b2,59,u8s (zs 64)),(b3,59,u8s S)]) ([193,ov,v.fd%256,0]++zs 60) (QR ov (v.fd%256) 0 v.nu [] 52) 3) (fun i=>l.getD i false) vs W) (⟨_,(Qa M).drew,(fun _=>rfl),fun h=>by cases h⟩) ?_ ?_)
  · intro ix o' hi ho a' w2 l vs hls hlf hJ hout hin hdep hnot
    match ix,ho with
    | 0,ho=>
      obtain rfl:=Oj9 ho;have e0:=hout 4 (by kernel_rfl);replace e0:a'.eval (.tmp 4)=_:=e0.trans rfl;exact o_sl28 (.tmp 4) rfl b3 e0 ⟨_,rfl,Qe rfl,Qj [3] SP.loc (by omega) (by decide) hJ⟩
    | 1,ho=>
      obtain rfl:=Oj9 ho;have e0:=hout 1 (by kernel_rfl);replace e0:a'.eval (.tmp 1)=_:=e0.trans rfl;exact o_fld26a (.tmp 1) rfl b1 e0 ⟨_,rfl,Qe rfl,Qj [3] SP.loc (by omega) (by decide) hJ⟩
    | 2,ho=>
      obtain rfl:=Oj9 ho;have e0:a'.eval (.tmp 26)= .pointer (some ⟨b1,0,none⟩):=by have h9:=hin 1 26 (by kernel_rfl) (by kernel_rfl);exact h9.1.trans (Qc _ h9.2 rfl)
      have hJ2:=hJ;obtain⟨S,hM,_,_⟩:=hJ2;exact Za (.tmp 26) rfl _ _ e0 (Qb (hM.at 0 _ rfl) 0 _ rfl) ⟨_,rfl,Qe rfl,Qj [3] SP.loc (by omega) (by decide) hJ⟩
    | 3,ho=>
      obtain rfl:=Oj9 ho;have e0:a'.eval (.tmp 25)= .slice (some ⟨b3,4,none⟩) 8 60:=by have h9:=hin 0 25 (by kernel_rfl) (by kernel_rfl);exact h9.1.trans (Qc _ h9.2 rfl)
      have e1:a'.eval (.tmp 27)= .int .i64 v.nu:=by have h9:=hin 2 27 (by kernel_rfl) (by kernel_rfl);exact h9.1.trans (Qc _ h9.2 rfl)
      obtain⟨S,hM,hS0,_⟩:=hJ;obtain rfl:=hS0 hlf;refine Qq 157 _ _ rfl #[.slice (some ⟨b3,4,none⟩) 8 60,.int .i64 v.nu] (by simp [e0,e1]) (cg32 _ _) ((put32 b3 8 4 v.nu [193,ov,v.fd%256,0] (zs 8) (zs 52) w2 (hM.at 2 _ rfl) rfl (by simp [zs]) 60 (by omega) (Qa HNU)).mono ?_);rintro e w3 ⟨rfl,hB3,hk3⟩;exact⟨_,rfl,_,rfl,QA rfl,QJ (by omega) ⟨_,hM.sec 2 rfl hB3 hk3,(fun h=>by cases h),fun _=>rfl⟩⟩
  intro l_ vs4 V4 hl hJ htold;have t0:vs4 0= .slice (some ⟨b3,4,none⟩) 8 60:=Qc _ (htold 0 (by decide)) rfl;have t1:vs4 1= .pointer (some ⟨b1,0,none⟩):=Qc _ (htold 1 (by decide)) rfl;have t2:vs4 2= .int .i64 v.nu:=Qc _ (htold 2 (by decide)) rfl;rw [show (List.range 4).map vs4= [vs4 0,vs4 1,vs4 2,vs4 3] from rfl];simp only [t0,t1,t2,Qz,Act.put,List.setIfInBounds_toArray,List.set_cons_succ,List.set_cons_zero];clear t0 t1 t2 htold;obtain⟨S4,hM4,_,hS4⟩:=hJ;obtain rfl:=hS4 (hl 3 (by decide));replace M:Hid (Mm w V4 [(b1,29,vwC v),(b2,59,u8s (zs 64)),(b3,59,u8s (QR ov (v.fd%256) 0 v.nu [] 52))]):=hide hM4;clear hS4 hM4 hl P12;go_wp2_with (first |(refine Qg row24 (by rfl) (.tmp 29) (by rfl) b1 3 (by rfl) (QP v.ms) (by rw [Zu,hok.len]) (Vw.range ((Qa M).at 0 _ rfl)) ?_;refine Stp.go ?_))
  constructor
  go_wp2_with fail
  go_loopw [31] (fun i wr=>∃j:Nat,j≤8∧i= .int .i64 j∧Hid (Mm w wr [(b1,29,vwC v),(b2,59,u8s (zs 64)),(b3,59,u8s (QR ov (v.fd%256) (QN 0 (v.ms.take j):Nat) v.nu (v.ms.take j) (52-4*j)))])) (fun i _=>8-(intOf i).toNat)
  case atStart=>exact ⟨0,by omega,rfl,M⟩
  case round=>
    clear M;obtain⟨j,hj,rfl,M⟩:=hrel;by_cases hlt:j<8
    · obtain⟨m,hm2⟩:∃m,v.ms[j]?=some m:=⟨_,List.getElem?_eq_getElem (by rw [hok.len];exact hlt)⟩;have hltI:(j:Int)<8:=by omega
      have hd:decide ((j:Int)<8)=true:=by simpa using hltI
      have HM:=hide hm2;have HJ8:=hide hlt;have HLE:Hid (([193,ov,v.fd%256,(QN 0 (v.ms.take j):Nat)]++be 8 v.nu++epB (v.ms.take j)).length=12+4*j):=by
       show _=_;simp only [List.length_append,List.length_cons,List.length_nil,ZV,epB_len,List.length_take,hok.len];omega
      have HAB:Hid (QN 0 (v.ms.take j)<2^j):=by
       have:=bitF_lt (v.ms.take j) 0;rw [List.length_take,hok.len,show min j 8=j by omega,Nat.zero_add] at this;show _<_;omega
      have HME:=hide (Qa HEP m (List.mem_of_getElem? hm2));have hbt:=bitF_take v.ms 0 j m hm2;have htk:v.ms.take (j+1)=v.ms.take j++ [m]:=by rw [List.take_add_one,hm2];rfl
      obtain⟨mi,me⟩:=m;cases mi with
      | false=>
       have HNX:Hid (([193,ov,v.fd%256,((QN 0 (v.ms.take j):Nat):Int)]++be 8 v.nu++epB (v.ms.take j)++be 4 me++zs (48-4*j))=(QR ov (v.fd%256) (QN 0 (v.ms.take (j+1)):Nat) v.nu (v.ms.take (j+1)) (52-4*(j+1)))):=by
         show _=_;rw [htk,← secL_next _ _ _ _ me (v.ms.take j) false j hlt,← htk,hbt];rfl
       clear hbt htk hm2;go_wp2_with (first |(refine wpIndex24 rfl (.tmp 30) (.tmp 31) rfl j v.ms hok.len (false,me) (Qa HM) rfl rfl ?_;refine Stp.go ?_))
       constructor
       go_wp2_with (first |(refine Qv (QD (false,0)) QT 6 rfl rfl rfl ?_;intro W41 b41 e41 B41 K41;replace M:=hide ((Qa M).new e41 B41 K41);clear e41 B41 K41;refine Stp.go ?_))
       constructor
       go_wp2_with (first |(refine Qh QC rfl (.tmp 6) (.tmp 34) rfl rfl b41 3 (QD (false,me)) rfl rfl rfl (Ze _) (Qa M) rfl rfl ?_;intro W42 N42;replace M:Hid (Mm w W42 [(b1,29,vwC v),(b2,59,u8s (zs 64)),(b3,59,u8s (QR ov (v.fd%256) (QN 0 (v.ms.take j):Nat) v.nu (v.ms.take j) (52-4*j))),(b41,26,QD (false,me))]):=hide N42;clear N42;have d0:=Qb ((Qa M).at 3 _ rfl) 0 _ rfl;refine Stp.go ?_))
       constructor
       go_wp2_with fail
       clear d0;refine wp_region_any mixed (QL 6 rfl (by kernel_rfl) [some (.slice (some ⟨b3,0,none⟩) 64 64),some (.int .i64 j),some (.slice (some ⟨b3,12+4*j,none⟩) 4 (52-4*j)),some (.pointer (some ⟨b41,1,none⟩)),some (.int .i64 me),none] rfl (by kernel_rfl) (fun l vs W=>(SP w (fun S=> [(b1,29,vwC v),(b2,59,u8s (zs 64)),(b3,59,u8s S),(b41,26,QD (false,me))]) (QR ov (v.fd%256) (QN 0 (v.ms.take j):Nat) v.nu (v.ms.take j) (52-4*j)) ([193,ov,v.fd%256,((QN 0 (v.ms.take j):Nat):Int)]++be 8 v.nu++epB (v.ms.take j)++be 4 me++zs (48-4*j)) 5) (fun i=>l.getD i false) vs W) (⟨_,(Qa M).drew,(fun _=>rfl),fun h=>by cases h⟩) ?_ ?_)
       · intro ix o' hi ho a' w2 l vs hls hlf hJ hout hin hdep hnot
         match ix,ho with
         | 0,ho=>
          obtain rfl:=Oj9 ho;have e0:=hout 4 (by kernel_rfl);replace e0:a'.eval (.tmp 4)=_:=e0.trans rfl;exact o_all28 (.tmp 4) rfl b3 e0 ⟨_,rfl,Qe rfl,Qj [5] SP.loc (by omega) (by decide) hJ⟩
         | 1,ho=>
          obtain rfl:=Oj9 ho;have e0:=hout 5 (by kernel_rfl);replace e0:a'.eval (.tmp 5)=_:=e0.trans rfl;exact wp_move (.tmp 5) rfl _ e0 ⟨_,rfl,Qe rfl,Qj [5] SP.loc (by omega) (by decide) hJ⟩
         | 2,ho=>
          obtain rfl:=Oj9 ho;have e0:a'.eval (.tmp 43)= .slice (some ⟨b3,0,none⟩) 64 64:=by have h9:=hin 0 43 (by kernel_rfl) (by kernel_rfl);exact h9.1.trans (Qc _ h9.2 rfl)
          have e1:a'.eval (.tmp 44)= .int .i64 j:=by have h9:=hin 1 44 (by kernel_rfl) (by kernel_rfl);exact h9.1.trans (Qc _ h9.2 rfl)
          refine Qq 156 _ _ rfl #[.slice (some ⟨b3,0,none⟩) 64 64,.int .i64 j] (by simp [e0,e1]) (cg33 _ _) ((epoch33 b3 j w2 (Qa HJ8)).mono ?_);rintro e w3 ⟨rfl,rfl⟩;exact⟨_,rfl,_,rfl,Qe rfl,Qj [5] SP.loc (by omega) (by decide) hJ⟩
         | 3,ho=>
          obtain rfl:=Oj9 ho;have e0:=hout 6 (by kernel_rfl);replace e0:a'.eval (.tmp 6)=_:=e0.trans rfl;exact o_fld23_1 (.tmp 6) rfl b41 e0 ⟨_,rfl,Qe rfl,Qj [5] SP.loc (by omega) (by decide) hJ⟩
         | 4,ho=>
          obtain rfl:=Oj9 ho;have e0:a'.eval (.tmp 46)= .pointer (some ⟨b41,1,none⟩):=by have h9:=hin 3 46 (by kernel_rfl) (by kernel_rfl);exact h9.1.trans (Qc _ h9.2 rfl)
          have hJ2:=hJ;obtain⟨S,hM,_,_⟩:=hJ2;exact Za (.tmp 46) rfl _ _ e0 (Qb (hM.at 3 _ rfl) 1 _ rfl) ⟨_,rfl,Qe rfl,Qj [5] SP.loc (by omega) (by decide) hJ⟩
         | 5,ho=>
          obtain rfl:=Oj9 ho;have e0:a'.eval (.tmp 45)= .slice (some ⟨b3,12+4*j,none⟩) 4 (52-4*j):=by have h9:=hin 2 45 (by kernel_rfl) (by kernel_rfl);exact h9.1.trans (Qc _ h9.2 rfl)
          have e1:a'.eval (.tmp 47)= .int .i64 me:=by have h9:=hin 4 47 (by kernel_rfl) (by kernel_rfl);exact h9.1.trans (Qc _ h9.2 rfl)
          obtain⟨S,hM,hS0,_⟩:=hJ;obtain rfl:=hS0 hlf;refine Qq 157 _ _ rfl #[.slice (some ⟨b3,12+4*j,none⟩) 4 (52-4*j),.int .i64 me] (by simp [e0,e1]) (cg32 _ _) ((put32 b3 4 (12+4*j) me ([193,ov,v.fd%256,((QN 0 (v.ms.take j):Nat):Int)]++be 8 v.nu++epB (v.ms.take j)) (zs 4) (zs (48-4*j)) w2 (by have h9:=hM.at 2 _ rfl;rw [show u8s (QR ov (v.fd%256) (QN 0 (v.ms.take j):Nat) v.nu (v.ms.take j) (52-4*j))=u8s (([193,ov,v.fd%256,((QN 0 (v.ms.take j):Nat):Int)]++be 8 v.nu++epB (v.ms.take j))++zs 4++zs (48-4*j)) from congrArg u8s (secL_cut _ _ _ _ _ _ (Qa HJ8))] at h9;exact h9) (Qa HLE) (by simp [zs]) _ (by omega) (Qa HME)).mono ?_);rintro e w3 ⟨rfl,hB3,hk3⟩;exact⟨_,rfl,_,rfl,QA rfl,QJ (by omega) ⟨_,hM.sec 2 rfl hB3 hk3,(fun h=>by cases h),fun _=>rfl⟩⟩
       intro l6 vs6 V6 hl hJ htold;have t0:vs6 0= .slice (some ⟨b3,0,none⟩) 64 64:=Qc _ (htold 0 (by decide)) rfl;have t1:vs6 1= .int .i64 j:=Qc _ (htold 1 (by decide)) rfl;have t2:vs6 2= .slice (some ⟨b3,12+4*j,none⟩) 4 (52-4*j):=Qc _ (htold 2 (by decide)) rfl;have t3:vs6 3= .pointer (some ⟨b41,1,none⟩):=Qc _ (htold 3 (by decide)) rfl;have t4:vs6 4= .int .i64 me:=Qc _ (htold 4 (by decide)) rfl;rw [show (List.range 6).map vs6= [vs6 0,vs6 1,vs6 2,vs6 3,vs6 4,vs6 5] from rfl];simp only [t0,t1,t2,t3,t4,Qz,Act.put,List.setIfInBounds_toArray,List.set_cons_succ,List.set_cons_zero];clear t0 t1 t2 t3 t4 htold;obtain⟨S6,hM6,_,hS6⟩:=hJ;obtain rfl:=hS6 (hl 5 (by decide));replace M:Hid (Mm w V6 [(b1,29,vwC v),(b2,59,u8s (zs 64)),(b3,59,u8s ([193,ov,v.fd%256,((QN 0 (v.ms.take j):Nat):Int)]++be 8 v.nu++epB (v.ms.take j)++be 4 me++zs (48-4*j))),(b41,26,QD (false,me))]):=hide hM6;clear hS6 hM6 hl;go_wp2_with fail
       go_roundw
       case rel=>
         refine⟨j+1,by omega,by go_num,?_⟩;have h9:=Qa M;rw [show ([193,ov,v.fd%256,((QN 0 (v.ms.take j):Nat):Int)]++be 8 v.nu++epB (v.ms.take j)++be 4 me++zs (48-4*j))=(QR ov (v.fd%256) (QN 0 (v.ms.take (j+1)):Nat) v.nu (v.ms.take (j+1)) (52-4*(j+1))) from Qa HNX] at h9;exact hide ⟨h9.kept,h9.first,h9.first0,fun y hy=>h9.blk y (by simp at hy ⊢;rcases hy with rfl | rfl | rfl <;> simp),by have:=h9.nd;simp at this ⊢;omega⟩
       case measure=>simp [intOf];omega
      | true=>
       have HNX:Hid (([193,ov,v.fd%256,((QN 0 (v.ms.take j)+2^j:Nat):Int)]++be 8 v.nu++epB (v.ms.take j)++be 4 me++zs (48-4*j))=(QR ov (v.fd%256) (QN 0 (v.ms.take (j+1)):Nat) v.nu (v.ms.take (j+1)) (52-4*(j+1)))):=by
         show _=_;rw [htk,← secL_next _ _ _ _ me (v.ms.take j) true j hlt,← htk,hbt,Nat.zero_add];rfl
       have HLE:Hid (([193,ov,v.fd%256,((QN 0 (v.ms.take j)+2^j:Nat):Int)]++be 8 v.nu++epB (v.ms.take j)).length=12+4*j):=Qa HLE;clear hbt htk hm2;go_wp2_with (first |(refine wpIndex24 rfl (.tmp 30) (.tmp 31) rfl j v.ms hok.len (true,me) (Qa HM) rfl rfl ?_;refine Stp.go ?_))
       constructor
       go_wp2_with (first |(refine Qv (QD (false,0)) QT 6 rfl rfl rfl ?_;intro W41 b41 e41 B41 K41;replace M:=hide ((Qa M).new e41 B41 K41);clear e41 B41 K41;refine Stp.go ?_))
       constructor
       go_wp2_with (first |(refine Qh QC rfl (.tmp 6) (.tmp 34) rfl rfl b41 3 (QD (true,me)) rfl rfl rfl (Ze _) (Qa M) rfl rfl ?_;intro W42 N42;replace M:Hid (Mm w W42 [(b1,29,vwC v),(b2,59,u8s (zs 64)),(b3,59,u8s (QR ov (v.fd%256) (QN 0 (v.ms.take j):Nat) v.nu (v.ms.take j) (52-4*j))),(b41,26,QD (true,me))]):=hide N42;clear N42;have d0:=Qb ((Qa M).at 3 _ rfl) 0 _ rfl;refine Stp.go ?_))
       constructor
       go_wp2_with fail
       clear d0;refine wp_region_any mixed (QL 7 rfl (by kernel_rfl) [some (.pointer (some ⟨b3,3,none⟩)),some (.int .u8 ((QN 0 (v.ms.take j):Nat):Int)),some (.int .i64 j),some (.int .u8 ((2^j:Nat):Int)),some (.int .u8 ((QN 0 (v.ms.take j)+2^j:Nat):Int)),some (.pointer (some ⟨b3,3,none⟩)),none] rfl (by kernel_rfl) (fun l vs W=>(SQ w (fun S=> [(b1,29,vwC v),(b2,59,u8s (zs 64)),(b3,59,u8s S),(b41,26,QD (true,me))]) (QR ov (v.fd%256) (QN 0 (v.ms.take j):Nat) v.nu (v.ms.take j) (52-4*j)) (QR ov (v.fd%256) (QN 0 (v.ms.take j)+2^j:Nat) v.nu (v.ms.take j) (52-4*j))) (fun i=>l.getD i false) vs W) (⟨_,(Qa M).drew,(fun _=>rfl),(fun h=>by cases h),(fun h=>by cases h),fun h=>by cases h⟩) ?_ ?_)
       · intro ix o' hi ho a' w2 l vs hls hlf hJ hout hin hdep hnot
         match ix,ho with
         | 0,ho=>
          obtain rfl:=Oj9 ho;have e0:=hout 4 (by kernel_rfl);replace e0:a'.eval (.tmp 4)=_:=e0.trans rfl;exact o_idx28 (.tmp 4) 3 (by omega) rfl b3 e0 ⟨_,rfl,Qe rfl,Qj [1,4,6] SQ.loc (by omega) (by decide) hJ⟩
         | 1,ho=>
          obtain rfl:=Oj9 ho;have e0:a'.eval (.tmp 37)= .pointer (some ⟨b3,3,none⟩):=by have h9:=hin 0 37 (by kernel_rfl) (by kernel_rfl);exact h9.1.trans (Qc _ h9.2 rfl)
          obtain⟨S,hM,hS0,hS1,h6,h4⟩:=hJ;have h6f:l.getD 6 false=false:=by
           cases h:l.getD 6 false with
           | false=>rfl
           | true=>have h1:l.getD 1 false=true:=h6 h;have h9:l.getD 1 false=false:=hlf;rw [h9] at h1;cases h1
          obtain rfl:=hS0 h6f;exact o_load5 (.tmp 37) rfl _ _ e0 (Qb (hM.at 2 _ rfl) 3 _ rfl) ⟨_,rfl,Qe rfl,QJ (by omega) ⟨_,hM,(fun _=>rfl),(fun h=>by have h9:l.getD 6 false=true:=h;rw [h6f] at h9;cases h9),(fun _=>rfl),fun _=>rfl⟩⟩
         | 2,ho=>
          obtain rfl:=Oj9 ho;have e0:=hout 5 (by kernel_rfl);replace e0:a'.eval (.tmp 5)=_:=e0.trans rfl;exact wp_move (.tmp 5) rfl _ e0 ⟨_,rfl,Qe rfl,Qj [1,4,6] SQ.loc (by omega) (by decide) hJ⟩
         | 3,ho=>
          obtain rfl:=Oj9 ho;have e0:a'.eval (.tmp 39)= .int .i64 j:=by have h9:=hin 2 39 (by kernel_rfl) (by kernel_rfl);exact h9.1.trans (Qc _ h9.2 rfl)
          exact o_shl1 (.tmp 39) rfl j (Qa HJ8) e0 ⟨_,rfl,Qe rfl,Qj [1,4,6] SQ.loc (by omega) (by decide) hJ⟩
         | 4,ho=>
          obtain rfl:=Oj9 ho;have e0:a'.eval (.tmp 38)= .int .u8 ((QN 0 (v.ms.take j):Nat):Int):=by have h9:=hin 1 38 (by kernel_rfl) (by kernel_rfl);exact h9.1.trans (Qc _ h9.2 rfl)
          have e1:a'.eval (.tmp 40)= .int .u8 ((2^j:Nat):Int):=by have h9:=hin 3 40 (by kernel_rfl) (by kernel_rfl);exact h9.1.trans (Qc _ h9.2 rfl)
          obtain⟨S,hM,hS0,hS1,h6,h4⟩:=hJ;have hd1:l.getD 1 false=true:=hdep 1 (by kernel_rfl);exact o_or8 (.tmp 38) (.tmp 40) rfl _ j (Qa HAB) (Qa HJ8) e0 e1 ⟨_,rfl,Qe rfl,QJ (by omega) ⟨_,hM,hS0,hS1,h6,fun _=>hd1⟩⟩
         | 5,ho=>
          obtain rfl:=Oj9 ho;have e0:=hout 4 (by kernel_rfl);replace e0:a'.eval (.tmp 4)=_:=e0.trans rfl;exact o_idx28 (.tmp 4) 3 (by omega) rfl b3 e0 ⟨_,rfl,Qe rfl,Qj [1,4,6] SQ.loc (by omega) (by decide) hJ⟩
         | 6,ho=>
          obtain rfl:=Oj9 ho;have e0:a'.eval (.tmp 42)= .pointer (some ⟨b3,3,none⟩):=by have h9:=hin 5 42 (by kernel_rfl) (by kernel_rfl);exact h9.1.trans (Qc _ h9.2 rfl)
          have e1:a'.eval (.tmp 41)= .int .u8 ((QN 0 (v.ms.take j)+2^j:Nat):Int):=by have h9:=hin 4 41 (by kernel_rfl) (by kernel_rfl);exact h9.1.trans (Qc _ h9.2 rfl)
          obtain⟨S,hM,hS0,hS1,h6,h4⟩:=hJ;have hd4:l.getD 4 false=true:=hdep 4 (by kernel_rfl);obtain rfl:=hS0 hlf;exact o_st5 (.tmp 42) (.tmp 41) rfl b3 3 59 _ _ e0 e1 (hM.at 2 _ rfl) (by rw [Qy,Zj];omega) (fun W hB hK=>⟨undef,rfl,QA rfl,QJ (by omega) ⟨(QR ov (v.fd%256) (QN 0 (v.ms.take j)+2^j:Nat) v.nu (v.ms.take j) (52-4*j)),hM.sec 2 rfl (show Blk W b3 59 (u8s (QR ov (v.fd%256) (QN 0 (v.ms.take j)+2^j:Nat) v.nu (v.ms.take j) (52-4*j))) from hB) hK,(fun h=>by cases h),(fun _=>rfl),(fun _=>h4 hd4),h4⟩⟩)
       intro l5 vs5 V5 hl hJ htold;have t0:vs5 0= .pointer (some ⟨b3,3,none⟩):=Qc _ (htold 0 (by decide)) rfl;have t1:vs5 1= .int .u8 ((QN 0 (v.ms.take j):Nat):Int):=Qc _ (htold 1 (by decide)) rfl;have t2:vs5 2= .int .i64 j:=Qc _ (htold 2 (by decide)) rfl;have t3:vs5 3= .int .u8 ((2^j:Nat):Int):=Qc _ (htold 3 (by decide)) rfl;have t4:vs5 4= .int .u8 ((QN 0 (v.ms.take j)+2^j:Nat):Int):=Qc _ (htold 4 (by decide)) rfl;have t5:vs5 5= .pointer (some ⟨b3,3,none⟩):=Qc _ (htold 5 (by decide)) rfl;rw [show (List.range 7).map vs5= [vs5 0,vs5 1,vs5 2,vs5 3,vs5 4,vs5 5,vs5 6] from rfl];simp only [t0,t1,t2,t3,t4,t5,Qz,Act.put,List.setIfInBounds_toArray,List.set_cons_succ,List.set_cons_zero];clear t0 t1 t2 t3 t4 t5 htold;obtain⟨S5,hM5,_,hS5,_,_⟩:=hJ;obtain rfl:=hS5 (hl 6 (by decide));replace M:Hid (Mm w V5 [(b1,29,vwC v),(b2,59,u8s (zs 64)),(b3,59,u8s (QR ov (v.fd%256) (QN 0 (v.ms.take j)+2^j:Nat) v.nu (v.ms.take j) (52-4*j))),(b41,26,QD (true,me))]):=hide hM5;clear hS5 hM5 hl;go_wp2_with fail
       refine wp_region_any mixed (QL 6 rfl (by kernel_rfl) [some (.slice (some ⟨b3,0,none⟩) 64 64),some (.int .i64 j),some (.slice (some ⟨b3,12+4*j,none⟩) 4 (52-4*j)),some (.pointer (some ⟨b41,1,none⟩)),some (.int .i64 me),none] rfl (by kernel_rfl) (fun l vs W=>(SP w (fun S=> [(b1,29,vwC v),(b2,59,u8s (zs 64)),(b3,59,u8s S),(b41,26,QD (true,me))]) (QR ov (v.fd%256) (QN 0 (v.ms.take j)+2^j:Nat) v.nu (v.ms.take j) (52-4*j)) ([193,ov,v.fd%256,((QN 0 (v.ms.take j)+2^j:Nat):Int)]++be 8 v.nu++epB (v.ms.take j)++be 4 me++zs (48-4*j)) 5) (fun i=>l.getD i false) vs W) (⟨_,(Qa M).drew,(fun _=>rfl),fun h=>by cases h⟩) ?_ ?_)
       · intro ix o' hi ho a' w2 l vs hls hlf hJ hout hin hdep hnot
         match ix,ho with
         | 0,ho=>
          obtain rfl:=Oj9 ho;have e0:=hout 4 (by kernel_rfl);replace e0:a'.eval (.tmp 4)=_:=e0.trans rfl;exact o_all28 (.tmp 4) rfl b3 e0 ⟨_,rfl,Qe rfl,Qj [5] SP.loc (by omega) (by decide) hJ⟩
         | 1,ho=>
          obtain rfl:=Oj9 ho;have e0:=hout 5 (by kernel_rfl);replace e0:a'.eval (.tmp 5)=_:=e0.trans rfl;exact wp_move (.tmp 5) rfl _ e0 ⟨_,rfl,Qe rfl,Qj [5] SP.loc (by omega) (by decide) hJ⟩
         | 2,ho=>
          obtain rfl:=Oj9 ho;have e0:a'.eval (.tmp 43)= .slice (some ⟨b3,0,none⟩) 64 64:=by have h9:=hin 0 43 (by kernel_rfl) (by kernel_rfl);exact h9.1.trans (Qc _ h9.2 rfl)
          have e1:a'.eval (.tmp 44)= .int .i64 j:=by have h9:=hin 1 44 (by kernel_rfl) (by kernel_rfl);exact h9.1.trans (Qc _ h9.2 rfl)
          refine Qq 156 _ _ rfl #[.slice (some ⟨b3,0,none⟩) 64 64,.int .i64 j] (by simp [e0,e1]) (cg33 _ _) ((epoch33 b3 j w2 (Qa HJ8)).mono ?_);rintro e w3 ⟨rfl,rfl⟩;exact⟨_,rfl,_,rfl,Qe rfl,Qj [5] SP.loc (by omega) (by decide) hJ⟩
         | 3,ho=>
          obtain rfl:=Oj9 ho;have e0:=hout 6 (by kernel_rfl);replace e0:a'.eval (.tmp 6)=_:=e0.trans rfl;exact o_fld23_1 (.tmp 6) rfl b41 e0 ⟨_,rfl,Qe rfl,Qj [5] SP.loc (by omega) (by decide) hJ⟩
         | 4,ho=>
          obtain rfl:=Oj9 ho;have e0:a'.eval (.tmp 46)= .pointer (some ⟨b41,1,none⟩):=by have h9:=hin 3 46 (by kernel_rfl) (by kernel_rfl);exact h9.1.trans (Qc _ h9.2 rfl)
          have hJ2:=hJ;obtain⟨S,hM,_,_⟩:=hJ2;exact Za (.tmp 46) rfl _ _ e0 (Qb (hM.at 3 _ rfl) 1 _ rfl) ⟨_,rfl,Qe rfl,Qj [5] SP.loc (by omega) (by decide) hJ⟩
         | 5,ho=>
          obtain rfl:=Oj9 ho;have e0:a'.eval (.tmp 45)= .slice (some ⟨b3,12+4*j,none⟩) 4 (52-4*j):=by have h9:=hin 2 45 (by kernel_rfl) (by kernel_rfl);exact h9.1.trans (Qc _ h9.2 rfl)
          have e1:a'.eval (.tmp 47)= .int .i64 me:=by have h9:=hin 4 47 (by kernel_rfl) (by kernel_rfl);exact h9.1.trans (Qc _ h9.2 rfl)
          obtain⟨S,hM,hS0,_⟩:=hJ;obtain rfl:=hS0 hlf;refine Qq 157 _ _ rfl #[.slice (some ⟨b3,12+4*j,none⟩) 4 (52-4*j),.int .i64 me] (by simp [e0,e1]) (cg32 _ _) ((put32 b3 4 (12+4*j) me ([193,ov,v.fd%256,((QN 0 (v.ms.take j)+2^j:Nat):Int)]++be 8 v.nu++epB (v.ms.take j)) (zs 4) (zs (48-4*j)) w2 (by have h9:=hM.at 2 _ rfl;rw [show u8s (QR ov (v.fd%256) (QN 0 (v.ms.take j)+2^j:Nat) v.nu (v.ms.take j) (52-4*j))=u8s (([193,ov,v.fd%256,((QN 0 (v.ms.take j)+2^j:Nat):Int)]++be 8 v.nu++epB (v.ms.take j))++zs 4++zs (48-4*j)) from congrArg u8s (secL_cut _ _ _ _ _ _ (Qa HJ8))] at h9;exact h9) (Qa HLE) (by simp [zs]) _ (by omega) (Qa HME)).mono ?_);rintro e w3 ⟨rfl,hB3,hk3⟩;exact⟨_,rfl,_,rfl,QA rfl,QJ (by omega) ⟨_,hM.sec 2 rfl hB3 hk3,(fun h=>by cases h),fun _=>rfl⟩⟩
       intro l6 vs6 V6 hl hJ htold;have t0:vs6 0= .slice (some ⟨b3,0,none⟩) 64 64:=Qc _ (htold 0 (by decide)) rfl;have t1:vs6 1= .int .i64 j:=Qc _ (htold 1 (by decide)) rfl;have t2:vs6 2= .slice (some ⟨b3,12+4*j,none⟩) 4 (52-4*j):=Qc _ (htold 2 (by decide)) rfl;have t3:vs6 3= .pointer (some ⟨b41,1,none⟩):=Qc _ (htold 3 (by decide)) rfl;have t4:vs6 4= .int .i64 me:=Qc _ (htold 4 (by decide)) rfl;rw [show (List.range 6).map vs6= [vs6 0,vs6 1,vs6 2,vs6 3,vs6 4,vs6 5] from rfl];simp only [t0,t1,t2,t3,t4,Qz,Act.put,List.setIfInBounds_toArray,List.set_cons_succ,List.set_cons_zero];clear t0 t1 t2 t3 t4 htold;obtain⟨S6,hM6,_,hS6⟩:=hJ;obtain rfl:=hS6 (hl 5 (by decide));replace M:Hid (Mm w V6 [(b1,29,vwC v),(b2,59,u8s (zs 64)),(b3,59,u8s ([193,ov,v.fd%256,((QN 0 (v.ms.take j)+2^j:Nat):Int)]++be 8 v.nu++epB (v.ms.take j)++be 4 me++zs (48-4*j))),(b41,26,QD (true,me))]):=hide hM6;clear hS6 hM6 hl;go_wp2_with fail
       go_roundw
       case rel=>
         refine⟨j+1,by omega,by go_num,?_⟩;have h9:=Qa M;rw [show ([193,ov,v.fd%256,((QN 0 (v.ms.take j)+2^j:Nat):Int)]++be 8 v.nu++epB (v.ms.take j)++be 4 me++zs (48-4*j))=(QR ov (v.fd%256) (QN 0 (v.ms.take (j+1)):Nat) v.nu (v.ms.take (j+1)) (52-4*(j+1))) from Qa HNX] at h9;exact hide ⟨h9.kept,h9.first,h9.first0,fun y hy=>h9.blk y (by simp at hy ⊢;rcases hy with rfl | rfl | rfl <;> simp),by have:=h9.nd;simp at this ⊢;omega⟩
       case measure=>simp [intOf];omega
    · have HE:Hid (v.ms.take j=v.ms∧52-4*j=20):=⟨List.take_of_length_le (by rw [hok.len];omega),by omega⟩;have hd:decide ((j:Int)<8)=false:=by simp;omega
      replace M:Hid (Mm w wr [(b1,29,vwC v),(b2,59,u8s (zs 64)),(b3,59,u8s (QR ov (v.fd%256) (QN 0 v.ms:Nat) v.nu v.ms 20))]):=by have:=Qa M;rw [(Qa HE).1,(Qa HE).2] at this;exact hide this
      have HL20:Hid ((u8s (QR ov (v.fd%256) (QN 0 v.ms:Nat) v.nu v.ms 20)).length=64):=by show _=_;rw [Qy,Zj,hok.len]
      go_wp2_with (first |(refine Qg Zc rfl (.tmp 4) rfl b3 0 rfl (u8s (QR ov (v.fd%256) (QN 0 v.ms:Nat) v.nu v.ms 20)) (Qa HL20) ((Qa M).at 2 _ rfl).range ?_;refine Stp.go ?_))
      constructor
      go_wp2_with (first |(refine Qh Zc rfl (.tmp 2) (.tmp 50) rfl rfl b2 1 (u8s (QR ov (v.fd%256) (QN 0 v.ms:Nat) v.nu v.ms 20)) rfl rfl (Qa HL20) (QU _) (Qa M) rfl (zl 64) ?_;intro W71 N71;replace M:Hid (Mm w W71 [(b1,29,vwC v),(b2,59,u8s (QR ov (v.fd%256) (QN 0 v.ms:Nat) v.nu v.ms 20)),(b3,59,u8s (QR ov (v.fd%256) (QN 0 v.ms:Nat) v.nu v.ms 20))]):=hide N71;clear N71;refine Stp.go ?_))
      constructor
      go_wp2_with fail
      refine bodyPost_ret (res8 _ b2 (u8s (QR ov (v.fd%256) (QN 0 v.ms:Nat) v.nu v.ms 20)) 0 _ rfl rfl (Qa HL20) ((Qa M).at 1 _ rfl)) rfl ?_;exact⟨rfl,(Qa M).kept⟩
def Zr (v:Vw):List Int×Int:=if v.may=false then (zs 64,2) else if v=fv then (zs 64,0) else (secV v,0)
theorem put8 (v:Vw) (w:World) (hF:First w) (hok:v.Ok):Calls Tryz.prog 148 #[Qd (vwC v)] w fun e w'=>e= .returned (.tuple #[Qd (u8s (Zr v).1),.int .i64 (Zr v).2])∧Kept [] w w':=by
 unfold Zr;cases hm:v.may with
 | false=>exact put_a v w hF hok.len hm
 | true=>
  by_cases hq:v=fv
  · rw [if_neg (by simp),if_pos hq];exact put_b v w hF hok.len hm (by simpa using hq)
  · rw [if_neg (by simp),if_neg hq];unfold secV;cases hop:v.op with
    | true=>exact put_true_F.1 v w hF hok hm (by simpa using hq) hop _ rfl
    | false=>exact put_true_F.2 v w hF hok hm (by simpa using hq) hop _ rfl
end Go.Proofs.YtcfflbafclmheaaGreatDoor.Vi
