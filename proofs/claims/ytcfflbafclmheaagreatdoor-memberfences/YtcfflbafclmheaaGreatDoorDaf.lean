/-
  Texts of the walks of member, shortened.
-/
import Derived.Test.YtcfflbafclmheaaGreatDoorDae
import Derived.Test.YtcfflbafclmheaaGreatDoorDac
import Derived.Test.YtcfflbafclmheaaGreatDoorDad
import Derived.BigQuiet
import Derived.Defers
import Derived.Recover
import Derived.WalkLawsBesides
set_option maxRecDepth 100000
set_option maxHeartbeats 100000000
set_option linter.unusedSimpArgs false
namespace Go.Proofs.YtcfflbafclmheaaGreatDoor.Ar
open Go.RowKit
abbrev two (r:Int×Int):Value:= .tuple #[.int .i64 r.1,.int .i64 r.2]
def Job.sectors (j:Job):Int×Int:=if j.may then (j.p*2+(j.L+9),0) else (0,2)
def Job.view (j:Job):Int×Int:=if j.may then (0,0) else (0,2)
def below (n b:Int):Bool:=decide (0≤n∧n<b)
def Job.lease (j:Job) (n:Int):Int×Int:=if j.may&&below n 8 then (1+n,0) else (0,2)
theorem start_1 (j:Job) (hm:j.may=true) (w:World):Calls Tryz.prog 127 #[Qd (Qf j),.int .i64 1] w fun e w'=>e= .returned (.int .i64 1)∧Kept [] w w':=start_s j hm 0 (by omega) w
theorem start_4 (j:Job) (hm:j.may=true) (w:World):Calls Tryz.prog 127 #[Qd (Qf j),.int .i64 4] w fun e w'=>e= .returned (.int .i64 (j.p*2+(j.L+9)))∧Kept [] w w':=start_s j hm 3 (by omega) w
theorem below28' (n b:Int) (w:World):Calls Tryz.prog 126 #[.int .i64 n,.int .i64 b] w fun e w'=>e= .returned (.bool (below n b))∧w'=w:=below28 n b w
theorem sectors8 (j:Job) (w:World):Calls Tryz.prog 107 #[Qd (Qf j)] w fun e w'=>e= .returned (two j.sectors)∧Kept [] w w':=by
 cases hm:j.may with
 | false=>
  have hr:j.sectors=(0,2):=by simp [Job.sectors,hm]
  rw [hr];go_enter Tryz.func107,Tryz.ntmps107
  go_wp2_with (
   first
   |(refine Qp rfl (.tmp 0) rfl (Qf j) rfl ?_;intro W1 b1 e1 B1 K1;have BB:=hide B1;have KK:=hide K1;have hM:=hide (may10 j W1);rw [hm] at hM;clear e1 B1 K1)
   |(refine Qg QC rfl (.tmp 1) rfl b1 0 rfl (Qf j) rfl (Qa BB).range ?_)
   |(go_at_call 125;refine(Qa hM).mono ?_;rintro e W2 ⟨rfl,K2⟩;obtain⟨c0,c1,c2,c3,c4⟩:=Job.cells ((Qa BB).kept K2 (by simp));have BB2:=hide ((Qa BB).kept K2 (by simp));have KK2:=hide ((Qa KK).trans K2);clear BB KK hM K2))
  go_ret2
  exact⟨rfl,Qa KK2⟩
 | true=>
  have hr:j.sectors=(j.p*2+(j.L+9),0):=by simp [Job.sectors,hm]
  rw [hr];go_enter Tryz.func107,Tryz.ntmps107
  go_wp2_with (
   first
   |(refine Qp rfl (.tmp 0) rfl (Qf j) rfl ?_;intro W1 b1 e1 B1 K1;have BB:=hide B1;have KK:=hide K1;have hM:=hide (may10 j W1);rw [hm] at hM;clear e1 B1 K1)
   |(refine Qg QC rfl (.tmp 1) rfl b1 0 rfl (Qf j) rfl (Qa BB).range ?_)
   |(go_at_call 125;refine(Qa hM).mono ?_;rintro e W2 ⟨rfl,K2⟩;obtain⟨c0,c1,c2,c3,c4⟩:=Job.cells ((Qa BB).kept K2 (by simp));have BB2:=hide ((Qa BB).kept K2 (by simp));have KK2:=hide ((Qa KK).trans K2);clear BB KK hM K2)
   |(refine Qg QC rfl (.tmp 1) rfl b1 0 rfl (Qf j) rfl (Qa BB2).range ?_)
   |(go_at_call 127;refine(start_4 j hm _).mono ?_;rintro e W3 ⟨rfl,K3⟩;have KK3:=hide ((Qa KK2).trans K3);clear BB2 KK2 K3))
  go_ret2
  exact⟨rfl,Qa KK3⟩
theorem view9 (j:Job) (w:World):Calls Tryz.prog 109 #[Qd (Qf j)] w fun e w'=>e= .returned (two j.view)∧Kept [] w w':=by
 cases hm:j.may with
 | false=>
  have hr:j.view=(0,2):=by simp [Job.view,hm]
  rw [hr];go_enter Tryz.func109,Tryz.ntmps109
  go_wp2_with (
   first
   |(refine Qp rfl (.tmp 0) rfl (Qf j) rfl ?_;intro W1 b1 e1 B1 K1;have BB:=hide B1;have KK:=hide K1;have hM:=hide (may10 j W1);rw [hm] at hM;clear e1 B1 K1)
   |(refine Qg QC rfl (.tmp 1) rfl b1 0 rfl (Qf j) rfl (Qa BB).range ?_)
   |(go_at_call 125;refine(Qa hM).mono ?_;rintro e W2 ⟨rfl,K2⟩;obtain⟨c0,c1,c2,c3,c4⟩:=Job.cells ((Qa BB).kept K2 (by simp));have BB2:=hide ((Qa BB).kept K2 (by simp));have KK2:=hide ((Qa KK).trans K2);clear BB KK hM K2))
  go_ret2
  exact⟨rfl,Qa KK2⟩
 | true=>
  have hr:j.view=(0,0):=by simp [Job.view,hm]
  rw [hr];go_enter Tryz.func109,Tryz.ntmps109
  go_wp2_with (
   first
   |(refine Qp rfl (.tmp 0) rfl (Qf j) rfl ?_;intro W1 b1 e1 B1 K1;have BB:=hide B1;have KK:=hide K1;have hM:=hide (may10 j W1);rw [hm] at hM;clear e1 B1 K1)
   |(refine Qg QC rfl (.tmp 1) rfl b1 0 rfl (Qf j) rfl (Qa BB).range ?_)
   |(go_at_call 125;refine(Qa hM).mono ?_;rintro e W2 ⟨rfl,K2⟩;obtain⟨c0,c1,c2,c3,c4⟩:=Job.cells ((Qa BB).kept K2 (by simp));have BB2:=hide ((Qa BB).kept K2 (by simp));have KK2:=hide ((Qa KK).trans K2);clear BB KK hM K2)
   |(refine Qg QC rfl (.tmp 1) rfl b1 0 rfl (Qf j) rfl (Qa BB2).range ?_)
   |(go_at_call 127;refine(start_0 j _).mono ?_;rintro e W3 ⟨rfl,K3⟩;have KK3:=hide ((Qa KK2).trans K3);clear BB2 KK2 K3))
  go_ret2
  exact⟨rfl,Qa KK3⟩
theorem lease18 (j:Job) (n:Int) (w:World):Calls Tryz.prog 72 #[Qd (Qf j),.int .i64 n] w fun e w'=>e= .returned (two (j.lease n))∧Kept [] w w':=by
 cases hm:j.may with
 | false=>
  have hr:j.lease n=(0,2):=by simp [Job.lease,hm]
  rw [hr];go_enter Tryz.func72,Tryz.ntmps72
  go_wp2_with (
   first
   |(refine Qp rfl (.tmp 0) rfl (Qf j) rfl ?_;intro W1 b1 e1 B1 K1;have BB:=hide B1;have KK:=hide K1;have hM:=hide (may10 j W1);rw [hm] at hM;clear e1 B1 K1)
   |(refine Qg QC rfl (.tmp 2) rfl b1 0 rfl (Qf j) rfl (Qa BB).range ?_)
   |(go_at_call 125;refine(Qa hM).mono ?_;rintro e W2 ⟨rfl,K2⟩;obtain⟨c0,c1,c2,c3,c4⟩:=Job.cells ((Qa BB).kept K2 (by simp));have BB2:=hide ((Qa BB).kept K2 (by simp));have KK2:=hide ((Qa KK).trans K2);clear BB KK hM K2))
  go_ret2
  exact⟨rfl,Qa KK2⟩
 | true=>
  have hL:=Job.L_le hm;have hP:=Job.p_le hm;cases hb:below n 8 with
  | false=>
   have hr:j.lease n=(0,2):=by simp [Job.lease,hb]
   rw [hr];go_enter Tryz.func72,Tryz.ntmps72
   go_wp2_with (
    first
    |(refine Qp rfl (.tmp 0) rfl (Qf j) rfl ?_;intro W1 b1 e1 B1 K1;have BB:=hide B1;have KK:=hide K1;have hM:=hide (may10 j W1);rw [hm] at hM;clear e1 B1 K1)
    |(refine Qg QC rfl (.tmp 2) rfl b1 0 rfl (Qf j) rfl (Qa BB).range ?_)
    |(go_at_call 125;refine(Qa hM).mono ?_;rintro e W2 ⟨rfl,K2⟩;obtain⟨c0,c1,c2,c3,c4⟩:=Job.cells ((Qa BB).kept K2 (by simp));have BB2:=hide ((Qa BB).kept K2 (by simp));have KK2:=hide ((Qa KK).trans K2);have hB:=hide (below28' n 8 W2);rw [hb] at hB;clear BB KK hM K2)
    |(go_at_call 126;refine(Qa hB).mono ?_;rintro e W3 ⟨rfl,rfl⟩;clear hB))
   go_ret2
   exact⟨rfl,Qa KK2⟩
  | true=>
   have hr:j.lease n=(1+n,0):=by simp [Job.lease,hm,hb]
   rw [hr];have hb2:0≤n∧n<8:=by simpa [below] using hb
   have HB:=hide hb;clear hb;have hw:IntKind.i64.wrap (1+n)=1+n:=by rw [IntKind.wrap_i64];omega
   go_enter Tryz.func72,Tryz.ntmps72
   go_wp2_with (
    first
    |(refine Qp rfl (.tmp 0) rfl (Qf j) rfl ?_;intro W1 b1 e1 B1 K1;have BB:=hide B1;have KK:=hide K1;have hM:=hide (may10 j W1);rw [hm] at hM;clear e1 B1 K1)
    |(refine Qg QC rfl (.tmp 2) rfl b1 0 rfl (Qf j) rfl (Qa BB).range ?_)
    |(go_at_call 125;refine(Qa hM).mono ?_;rintro e W2 ⟨rfl,K2⟩;obtain⟨c0,c1,c2,c3,c4⟩:=Job.cells ((Qa BB).kept K2 (by simp));have BB2:=hide ((Qa BB).kept K2 (by simp));have KK2:=hide ((Qa KK).trans K2);have hB:=hide (below28' n 8 W2);rw [(Qa HB)] at hB;clear BB KK hM K2)
    |(go_at_call 126;refine(Qa hB).mono ?_;rintro e W3 ⟨rfl,rfl⟩;clear hB)
    |(refine Qg QC rfl (.tmp 2) rfl b1 0 rfl (Qf j) rfl (Qa BB2).range ?_)
    |(go_at_call 127;refine(start_1 j hm _).mono ?_;rintro e W3 ⟨rfl,K3⟩;have KK3:=hide ((Qa KK2).trans K3);clear BB2 KK2 K3))
   go_ret2
   exact⟨rfl,Qa KK3⟩
theorem vs7 {vs:List Value} (h:vs.length=7):∃a b c d e f g,vs= [a,b,c,d,e,f,g]:=by
 match vs,h with
 | [a,b,c,d,e,f,g],_=>exact ⟨a,b,c,d,e,f,g,rfl⟩
end Go.Proofs.YtcfflbafclmheaaGreatDoor.Ar
namespace Go.Proofs.YtcfflbafclmheaaGreatDoor
open Go.RowKit
structure K92 (w w':World):Prop where
 os:w'.os=w.os
 tape:w'.tape=w.tape
 output:w'.output=w.output
 size:w.heap.size≤w'.heap.size
 block:∀k,k<w.heap.size→(k=0∨∀cs p,w.heap[k]?≠some (.cells cs 92 p))→w'.heap[k]?=w.heap[k]?
theorem K92.of {w w':World} (h:Kept [] w w'):K92 w w':=⟨h.os,h.tape,h.output,h.size,fun k hk _=>h.block k hk (by simp)⟩
theorem K92.trans {a b c:World} (h:K92 a b) (k:K92 b c):K92 a c:=
 ⟨k.os.trans h.os,k.tape.trans h.tape,k.output.trans h.output,Nat.le_trans h.size k.size,fun i hi hn=>by
  have e:=h.block i hi hn;rw [k.block i (Nat.lt_of_lt_of_le hi h.size) (hn.imp id (fun hn cs p he=>hn cs p (by rw [← e];exact he))),e]⟩
theorem K92.heap {w w':World} (h:K92 w w') {b T:Nat} {cs:Array Value} {p:Nat×Nat} (hb:w.heap[b]?=some (.cells cs T p)) (hT:T≠92):w'.heap[b]?=some (.cells cs T p):=by
 rw [h.block b (lt_of_block hb) (.inr (fun cs' p' e=>by rw [hb] at e;injection e with e;injection e with _ e;exact hT e))];exact hb
theorem _root_.Go.Proofs.YtcfflbafclmheaaGreatDoor.Blk.k92 {w w':World} {b T:Nat} {vs:List Value} (h:Blk w b T vs) (k:K92 w w') (hT:T≠92):Blk w' b T vs:=k.heap h hT
theorem dv92 {w w':World} {b g:Nat} {D:Dv.Dev} (h:Dv.Dv w b g D) (k:K92 w w'):Dv.Dv w' b g D:=by
 obtain⟨cap,h1,ex,h2,h3⟩:=h.lay;exact⟨h.ok,h.ne,cap,k.heap h1 (by decide),ex,k.heap h2 (by decide),h3⟩
def ZP (w0:World) (q:Value) (x:Int):Prop:=∃f cs,q=fnV f cs∧Ent f∧∀W,K92 w0 W→Calls Tryz.prog f cs W fun e W'=>e= .returned (.int .i64 x)∧Kept [] W W'
theorem ZP.mono92 {w0 w1:World} {q:Value} {x:Int} (h:ZP w0 q x) (k:K92 w0 w1):ZP w1 q x:=by
 obtain⟨f,cs,e,hf,hc⟩:=h;exact⟨f,cs,e,hf,fun W hW=>hc W (k.trans hW)⟩
theorem ZP.mono {w0 w1:World} {q:Value} {x:Int} (h:ZP w0 q x) (k:Kept [] w0 w1):ZP w1 q x:=h.mono92 (K92.of k)
def first0:List Int→Int
 | []=>0
 | x::r=>if x=0 then first0 r else x
theorem first0_all:∀(L:List Int),(∀y∈L,y=0)→first0 L=0
 | [],_=>rfl
 | x::r,h=>by
  have hx:x=0:=h x (by simp);rw [first0,if_pos hx];exact first0_all r (fun y hy=>h y (by simp [hy]))
theorem first0_at:∀(L:List Int) (k:Nat) (x:Int),(∀y∈L.take k,y=0)→L[k]?=some x→x≠0→first0 L=x
 | [],k,x,_,h,_=>by simp at h
 | y::r,0,x,_,h,hx=>by
  simp at h;subst h;rw [first0,if_neg hx]
 | y::r,k+1,x,h0,h,hx=>by
  have hy:y=0:=h0 y (by simp);rw [first0,if_pos hy];exact first0_at r k x (fun z hz=>h0 z (by simp [hz])) (by simpa using h) hx
theorem ques_list {w:World} :∀(L:List (Value×Int)),(∀p∈L,ZP w p.1 p.2)→∃qs:List (FuncId×Array Value),L.map Prod.fst=qs.map (fun q=>fnV q.1 q.2)∧
  ∀(k:Nat) (f:FuncId) (cs:Array Value),qs[k]?=some (f,cs)→∃x,(L.map Prod.snd)[k]?=some x∧Ent f∧∀W,K92 w W→Calls Tryz.prog f cs W fun e W'=>e= .returned (.int .i64 x)∧Kept [] W W'
 | [],_=>⟨[],rfl,fun k f cs h=>by simp at h⟩
 |(q,x)::r,h=>by
  obtain⟨qs,e,hq⟩:=ques_list r (fun p hp=>h p (by simp [hp]));obtain⟨f,cs,e1,hf,hc⟩:=h (q,x) (by simp);refine⟨(f,cs)::qs,by simp only [List.map_cons,e];rw [show q=fnV f cs from e1],fun k f' cs' hk=> ?_⟩;cases k with
  | zero=>
   simp at hk;obtain⟨rfl,rfl⟩:=hk;exact⟨x,by simp,hf,hc⟩
  | succ k=>
   obtain⟨y,hy,h2⟩:=hq k f' cs' (by simpa using hk);exact⟨y,by simpa using hy,h2⟩
theorem told_pure (b n c:Nat) (w:World) (L:List (Value×Int)) (hn:L.length=n) (hn9:n≤100) (hB:Rg w b (L.map Prod.fst)) (hL:∀p∈L,ZP w p.1 p.2):
   Calls Tryz.prog 67 #[.slice (some ⟨b,0,none⟩) n c] w fun e W'=>e= .returned (.int .i64 (first0 (L.map Prod.snd)))∧Kept [] w W':=by
 obtain⟨qs,e,hq⟩:=ques_list L hL;have hl:qs.length=n:=by
   have:=congrArg List.length e;simp at this;omega
 refine(told67 b n c qs w hl hn9 (fun k W=>Kept [] w W∧∀y∈(L.map Prod.snd).take k,y=0) (fun x W=>x=first0 (L.map Prod.snd)∧Kept [] w W) ⟨Kept.refl _ _,by simp⟩ ?_ ?_ ?_).mono ?_
 · rintro k W ⟨hk,-⟩;rw [← e];exact hB.kept hk (by simp)
 · rintro k f cs W hk ⟨hW,h0⟩;obtain⟨x,hx,hf,hc⟩:=hq k f cs hk;refine⟨hf,(hc W (K92.of hW)).mono ?_⟩;rintro e W' ⟨rfl,hk'⟩;refine⟨x,rfl,?_⟩;by_cases hz:x=0
   · refine .inl ⟨hz,hW.trans hk',fun y hy=> ?_⟩;rw [List.take_add_one,hx] at hy;rcases List.mem_append.1 hy with hy | hy
     · exact h0 y hy
     · simp at hy;omega
   · exact .inr ⟨hz,(first0_at _ k x h0 hx hz).symm,hW.trans hk'⟩
 · rintro W ⟨hW,h0⟩;rw [List.take_of_length_le (by simp;omega)] at h0;exact⟨(first0_all _ h0).symm,hW⟩
 · rintro e W' ⟨x,rfl,rfl,hk⟩;exact⟨rfl,hk⟩
theorem ent140:Ent 140:=fun _ _=>by kernel_rfl
theorem unless78 (e:Int) (f:FuncId) (cs:Array Value) (w:World):Calls Tryz.prog 78 #[.int .i64 e,fnV f cs] w fun r w'=>∃b1 b2,r= .returned (fnV 140 #[P0 b2,P0 b1])∧Blk w' b1 39 [.int .i64 e]∧Blk w' b2 31 [fnV f cs]∧Kept [] w w':=by
 have hmf:∀(fn:Fn) (first cap:Array Value) (w:World),(Instr.makeFunc fn first cap).run Tryz.prog w= .ok (.func fn first cap) w:=fun _ _ _ _=>rfl;go_enter Tryz.func78,Tryz.ntmps78
 go_wp2
 go_ret
 refine⟨w.heap.size,w.heap.size+1,rfl,heap_alloc_old (heap_alloc_new w _),?_,((Kept.refl _ _).alloc _).alloc _⟩;have e1:(w.alloc (.cells #[Value.int .i64 e] 39)).heap.size=w.heap.size+1:=World.size_alloc _ _;unfold Blk;rw [← e1];exact heap_alloc_new _ _
theorem o_load31 {o:Oper} {a:Act} {w:World} {K:Act→World→Prop} {Q:Exit→Act→World→Prop} (x:Operand) (ho:o.op= .load 31 x) (p:Addr) (v:Value) (hx:a.eval x= .pointer (some p)) (hc:w.cell? p=some v) (h:K (a.put o.dst v) w):o.wp Tryz.prog a w K Q:=by
 unfold Oper.wp execOp;simp only [ho,hx];simp [go_sem,hc];exact h
theorem unless140 (b1 b2:Nat) (e:Int) (f:FuncId) (cs:Array Value) (W:World) (h1:Blk W b1 39 [.int .i64 e]) (h2:Blk W b2 31 [fnV f cs]) (hent:Ent f) (t:Bool) (h:Calls Tryz.prog f cs W fun r W'=>r= .returned (.bool t)∧Kept [] W W'):
  Calls Tryz.prog 140 #[P0 b2,P0 b1] W fun r W'=>r= .returned (.int .i64 (if t then 0 else e))∧Kept [] W W':=by
 have H1:=hide h1;have HC2:=hide (Qb h2 0 _ rfl);have HE:=hide hent;have HC:=hide h;clear h1 h2 hent h;go_enter Tryz.func140,Tryz.ntmps140
 go_wp2_with (first |(refine wpList_plain rfl fun K hK=>o_load31 (.tmp 0) rfl _ _ rfl (Qa HC2) (hK _ _ ?_);refine Stp.go ?_))
 constructor
 go_wp2_with (first |(refine wpCall0 rfl f 3 rfl cs rfl (Qa HE) ((Qa HC).mono ?_);rintro e W2 ⟨rfl,K2⟩;refine⟨_,rfl,?_⟩;refine Stp.go ?_))
 constructor
 have hc1:=Qb ((Qa H1).kept K2 (by simp)) 0 _ rfl;have KK:=hide K2;clear K2 H1 HC HC2;cases t with
 | true=>
  go_wp2_with fail
  go_ret
  exact⟨rfl,Qa KK⟩
 | false=>
  go_wp2_with fail
  go_ret
  exact⟨rfl,Qa KK⟩
def qa (t:Bool) (e:Int):Int:=if t then 0 else e
theorem unless_q (e:Int) (f:FuncId) (cs:Array Value) (t:Bool) (w:World) (hent:Ent f) (h:∀W,K92 w W→Calls Tryz.prog f cs W fun r W'=>r= .returned (.bool t)∧Kept [] W W'):
  Calls Tryz.prog 78 #[.int .i64 e,fnV f cs] w fun r w'=>∃q,r= .returned q∧ZP w' q (qa t e)∧Kept [] w w':=by
 refine(unless78 e f cs w).mono ?_;rintro r w' ⟨b1,b2,rfl,B1,B2,hk⟩;exact⟨_,rfl,⟨140,_,rfl,ent140,fun W hW=>unless140 b1 b2 e f cs W (B1.k92 hW (by decide)) (B2.k92 hW (by decide)) hent t (h W ((K92.of hk).trans hW))⟩,hk⟩
def Dq (w:World) (p:Value):Option Dv.Dev→Prop
 | none=>p= .pointer none
 | some D=>∃b g,p= .pointer (some ⟨b,0,none⟩)∧Dv.Dv w b g D
def Qs:Option Dv.Dev→Nat
 | none=>0
 | some D=>D.S.length
def oNodes:Option Dv.Dev→Nat
 | none=>0
 | some D=>D.N
def oEpoch (o:Option Dv.Dev) (x:Int):Int×Int:=
 match o with
 | none=>(0,1)
 | some D=>D.epoch x
def QF (o:Option Dv.Dev) (x e:Int):Bool:=
 match o with
 | none=>false
 | some D=>D.fenced x e
theorem Dq.k92 {w W:World} {p:Value} {o:Option Dv.Dev} (h:Dq w p o) (k:K92 w W):Dq W p o:=by
 cases o with
 | none=>exact h
 | some D=>
  obtain⟨b,g,e,hd⟩:=h;exact⟨b,g,e,dv92 hd k⟩
theorem Dq.kept {w W:World} {p:Value} {o:Option Dv.Dev} (h:Dq w p o) (k:Kept [] w W):Dq W p o:=h.k92 (K92.of k)
theorem Dq.sz {w:World} {p:Value} {o:Option Dv.Dev} (h:Dq w p o):Dv.Sz w p (Qs o):=by
 cases o with
 | none=>exact .inl ⟨h,rfl⟩
 | some D=>
  obtain⟨b,g,rfl,hd⟩:=h;exact hd.sz
theorem Dq.nd {w:World} {p:Value} {o:Option Dv.Dev} (h:Dq w p o):Dv.Nd w p (oNodes o):=by
 cases o with
 | none=>exact .inl ⟨.inl ⟨h,rfl⟩,rfl⟩
 | some D=>
  obtain⟨b,g,rfl,hd⟩:=h;exact hd.nd
theorem epochQ (p:Value) (o:Option Dv.Dev) (x:Int) (w:World) (h:Dq w p o):Calls Tryz.prog 21 #[p,.int .i64 x] w fun e w'=>e= .returned (.tuple #[.int .i64 (oEpoch o x).1,.int .i64 (oEpoch o x).2])∧w'=w:=by
 cases o with
 | none=>exact Dv.epoch_nil p x w (.inl ⟨h,rfl⟩)
 | some D=>
  obtain⟨b,g,rfl,hd⟩:=h;exact Dv.epoch19 b g D x w hd
theorem fencedQ (p:Value) (o:Option Dv.Dev) (x ep:Int) (w:World) (h:Dq w p o):Calls Tryz.prog 20 #[p,.int .i64 x,.int .i64 ep] w fun e w'=>e= .returned (.bool (QF o x ep))∧w'=w:=by
 cases o with
 | none=>exact Dv.fenced_nil p x ep w (.inl ⟨h,rfl⟩)
 | some D=>
  obtain⟨b,g,rfl,hd⟩:=h;exact Dv.fenced37 b g D x ep w hd
open Go.RowKit
abbrev Job:=Ar.Job
abbrev Qf:=Ar.Qf
theorem Zv:Row 23 5:=⟨_,Tryz.underlying23,rfl,by kernel_rfl⟩
theorem Dq.ptr {w:World} {p:Value} {o:Option Dv.Dev} (h:Dq w p o):∃ao,p= .pointer ao:=by
 cases o with
 | none=>exact ⟨_,h⟩
 | some D=>
  obtain⟨b,g,rfl,-⟩:=h;exact⟨_,rfl⟩
theorem hmf (fn:Fn) (first cap:Array Value) (w:World):(Instr.makeFunc fn first cap).run Tryz.prog w= .ok (.func fn first cap) w:=rfl
theorem ent104:Ent 104:=fun _ _=>by kernel_rfl
theorem ent106:Ent 106:=fun _ _=>by kernel_rfl
theorem ent119:Ent 119:=fun _ _=>by kernel_rfl
theorem ent122:Ent 122:=fun _ _=>by kernel_rfl
theorem ent154:Ent 154:=fun _ _=>by kernel_rfl
theorem there104 (b0:Nat) (p:Value) (n:Nat) (W:World) (hB:Blk W b0 32 [p]) (h:Dv.Sz W p n):Calls Tryz.prog 104 #[P0 b0] W fun r W'=>r= .returned (.bool (decide (0<n)))∧Kept [] W W':=by
 have hc:=Qb hB 0 _ rfl;have hS:=hide (Dv.size31 p n W h);clear hB h;go_enter Tryz.func104,Tryz.ntmps104
 go_wp2_with (go_at_call 105;refine(Qa hS).mono ?_;rintro e W2 ⟨rfl,rfl⟩)
 go_ret
 exact⟨QB (by simp),Kept.refl _ _⟩
theorem there44 (p:Value) (o:Option Dv.Dev) (w:World) (h:Dq w p o):Calls Tryz.prog 44 #[p] w fun r w'=>∃q,r= .returned q∧ZP w' q (qa (decide (0<Qs o)) 1)∧Kept [] w w':=by
 obtain⟨ao,rfl⟩:=h.ptr;have hk:Kept [] w (w.alloc (.cells #[Value.pointer ao] 32)):=(Kept.refl _ _).alloc _;have hB:Blk (w.alloc (.cells #[Value.pointer ao] 32)) w.heap.size 32 [.pointer ao]:=heap_alloc_new w _;have hQ:=hide (unless_q 1 104 #[P0 w.heap.size] (decide (0<Qs o)) _ ent104 (fun W hW=>there104 w.heap.size (.pointer ao) (Qs o) W (hB.k92 hW (by decide)) ((h.kept hk).k92 hW).sz));have hm:=hmf;clear hB h;go_enter Tryz.func44,Tryz.ntmps44
 go_wp2_with (go_at_call 78;refine(Qa hQ).mono ?_;rintro e W2 ⟨q,rfl,hq,hk2⟩)
 go_ret
 exact⟨q,rfl,hq,hk.trans hk2⟩
def Qt (j:Job) (x:Int):Bool:=decide (0≤x)&&decide (x<j.n)
theorem node119 (bx bj:Nat) (j:Job) (x:Int) (W:World) (hx:Blk W bx 3 [.int .i64 x]) (hj:Blk W bj 23 (Qf j)):Calls Tryz.prog 119 #[P0 bx,P0 bj] W fun r W'=>r= .returned (.bool (Qt j x))∧Kept [] W W':=by
 have hc:=Qb hx 0 _ rfl;have hn:W.cell? ⟨bj,0,none⟩=some (.int .i64 j.n):=Qb hj 0 _ rfl;unfold Qt;clear hx hj;by_cases h0:0≤x
 · have hd:decide (0≤x)=true:=by simpa using h0
   go_enter Tryz.func119,Tryz.ntmps119
   go_wp2
   go_ret
   exact⟨QB (by simp [h0]),Kept.refl _ _⟩
 · have hd:decide (0≤x)=false:=by simpa using h0
   go_enter Tryz.func119,Tryz.ntmps119
   go_wp2
   go_ret
   exact⟨QB (by simp [h0]),Kept.refl _ _⟩
theorem node64 (j:Job) (x:Int) (w:World):Calls Tryz.prog 64 #[Qd (Qf j),.int .i64 x] w fun r w'=>∃q,r= .returned q∧ZP w' q (qa (Qt j x) 2)∧Kept [] w w':=by
 have hm:=hmf;go_enter Tryz.func64,Tryz.ntmps64
 go_wp2_with (
  first
  |(refine Qp rfl (.tmp 0) rfl (Qf j) rfl ?_;intro W1 b1 e1 B1 K1;have hk:Kept [] W1 (W1.alloc (.cells #[Value.int .i64 x] 3)):=(Kept.refl _ _).alloc _;have hB:Blk (W1.alloc (.cells #[Value.int .i64 x] 3)) W1.heap.size 3 [.int .i64 x]:=heap_alloc_new W1 _;have hQ:=hide (unless_q 2 119 #[P0 W1.heap.size,P0 b1] (Qt j x) _ ent119 (fun W hW=>node119 W1.heap.size b1 j x W (hB.k92 hW (by decide)) ((B1.kept hk (by simp)).k92 hW (by decide))));have hKK:=hide (K1.trans hk);clear hk hB B1 K1 e1)
  |(go_at_call 78;refine(Qa hQ).mono ?_;rintro e W2 ⟨q,rfl,hq,hk2⟩))
 go_ret
 exact⟨q,rfl,hq,(Qa hKK).trans hk2⟩
def Qx (o:Option Dv.Dev) (x ep:Int):Bool:=decide (1≤ep)&&decide (ep≤(oEpoch o x).1)
theorem epoch122 (bd bx be:Nat) (p:Value) (o:Option Dv.Dev) (x ep:Int) (W:World) (hd:Blk W bd 32 [p]) (hx:Blk W bx 3 [.int .i64 x]) (he:Blk W be 2 [.int .i64 ep]) (h:Dq W p o):
   Calls Tryz.prog 122 #[P0 bd,P0 bx,P0 be] W fun r W'=>r= .returned (.bool (Qx o x ep))∧Kept [] W W':=by
 have c0:=Qb hd 0 _ rfl;have c1:=Qb hx 0 _ rfl;have c2:=Qb he 0 _ rfl;have hE:=hide (epochQ p o x W h);unfold Qx;obtain⟨E,hEd⟩:∃E,oEpoch o x=E:=⟨_,rfl⟩;rw [hEd] at hE⊢;clear hd hx he h hEd;by_cases h0:1≤ep
 · have hd:decide (1≤ep)=true:=by simpa using h0
   go_enter Tryz.func122,Tryz.ntmps122
   go_wp2_with (go_at_call 21;refine(Qa hE).mono ?_;rintro e W2 ⟨rfl,rfl⟩)
   go_ret
   exact⟨QB (by simp [h0]),Kept.refl _ _⟩
 · have hd:decide (1≤ep)=false:=by simpa using h0
   go_enter Tryz.func122,Tryz.ntmps122
   go_wp2_with (go_at_call 21;refine(Qa hE).mono ?_;rintro e W2 ⟨rfl,rfl⟩)
   go_ret
   exact⟨QB (by simp;omega),Kept.refl _ _⟩
theorem three_new (w:World) (v0 v1 v2:Value) (t0 t1 t2:Nat):Kept [] w (((w.alloc (.cells #[v0] t0)).alloc (.cells #[v1] t1)).alloc (.cells #[v2] t2))∧Blk (((w.alloc (.cells #[v0] t0)).alloc (.cells #[v1] t1)).alloc (.cells #[v2] t2)) w.heap.size t0 [v0]
   ∧Blk (((w.alloc (.cells #[v0] t0)).alloc (.cells #[v1] t1)).alloc (.cells #[v2] t2)) (w.heap.size+1) t1 [v1]∧Blk (((w.alloc (.cells #[v0] t0)).alloc (.cells #[v1] t1)).alloc (.cells #[v2] t2)) (w.heap.size+1+1) t2 [v2]:=by
 refine⟨(((Kept.refl _ _).alloc _).alloc _).alloc _,heap_alloc_old (heap_alloc_old (heap_alloc_new w _)),heap_alloc_old ?_,?_⟩
 · have e1:(w.alloc (.cells #[v0] t0)).heap.size=w.heap.size+1:=World.size_alloc _ _;rw [← e1];exact heap_alloc_new _ _
 · have e2:((w.alloc (.cells #[v0] t0)).alloc (.cells #[v1] t1)).heap.size=w.heap.size+1+1:=by rw [World.size_alloc,World.size_alloc]
   unfold Blk;rw [← e2];exact heap_alloc_new _ _
theorem epoch68 (p:Value) (o:Option Dv.Dev) (x ep:Int) (w:World) (h:Dq w p o):Calls Tryz.prog 68 #[p,.int .i64 x,.int .i64 ep] w fun r w'=>∃q,r= .returned q∧ZP w' q (qa (Qx o x ep) 2)∧Kept [] w w':=by
 obtain⟨ao,rfl⟩:=h.ptr;obtain⟨hk,B0,B1,B2⟩:=three_new w (.pointer ao) (.int .i64 x) (.int .i64 ep) 32 3 2;have hQ:=hide (unless_q 2 122 #[P0 w.heap.size,P0 (w.heap.size+1),P0 (w.heap.size+1+1)] (Qx o x ep) _ ent122 (fun W hW=>epoch122 _ _ _ (.pointer ao) o x ep W (B0.k92 hW (by decide)) (B1.k92 hW (by decide)) (B2.k92 hW (by decide)) ((h.kept hk).k92 hW)));have hKK:=hide hk;have hm:=hmf;clear B0 B1 B2 h hk;go_enter Tryz.func68,Tryz.ntmps68
 go_wp2_with (go_at_call 78;refine(Qa hQ).mono ?_;rintro e W2 ⟨q,rfl,hq,hk2⟩)
 go_ret
 exact⟨q,rfl,hq,(Qa hKK).trans hk2⟩
theorem fence154 (bd bx be:Nat) (p:Value) (o:Option Dv.Dev) (x ep:Int) (W:World) (hd:Blk W bd 32 [p]) (hx:Blk W bx 3 [.int .i64 x]) (he:Blk W be 2 [.int .i64 ep]) (h:Dq W p o):
  Calls Tryz.prog 154 #[P0 bd,P0 bx,P0 be] W fun r W'=>r= .returned (.bool (!QF o x ep))∧Kept [] W W':=by
 have c0:=Qb hd 0 _ rfl;have c1:=Qb hx 0 _ rfl;have c2:=Qb he 0 _ rfl;have hE:=hide (fencedQ p o x ep W h);obtain⟨E,hEd⟩:∃E,QF o x ep=E:=⟨_,rfl⟩;rw [hEd] at hE⊢;clear hd hx he h hEd;go_enter Tryz.func154,Tryz.ntmps154
 go_wp2_with (go_at_call 20;refine(Qa hE).mono ?_;rintro e W2 ⟨rfl,rfl⟩)
 go_ret
 exact⟨QB (by simp),Kept.refl _ _⟩
theorem fence135 (p:Value) (o:Option Dv.Dev) (x ep:Int) (w:World) (h:Dq w p o):Calls Tryz.prog 135 #[p,.int .i64 x,.int .i64 ep] w fun r w'=>∃q,r= .returned q∧ZP w' q (qa (!QF o x ep) 8)∧Kept [] w w':=by
 obtain⟨ao,rfl⟩:=h.ptr;obtain⟨hk,B0,B1,B2⟩:=three_new w (.pointer ao) (.int .i64 x) (.int .i64 ep) 32 3 2;have hQ:=hide (unless_q 8 154 #[P0 w.heap.size,P0 (w.heap.size+1),P0 (w.heap.size+1+1)] (!QF o x ep) _ ent154 (fun W hW=>fence154 _ _ _ (.pointer ao) o x ep W (B0.k92 hW (by decide)) (B1.k92 hW (by decide)) (B2.k92 hW (by decide)) ((h.kept hk).k92 hW)));have hKK:=hide hk;have hm:=hmf;clear B0 B1 B2 h hk;go_enter Tryz.func135,Tryz.ntmps135
 go_wp2_with (go_at_call 78;refine(Qa hQ).mono ?_;rintro e W2 ⟨q,rfl,hq,hk2⟩)
 go_ret
 exact⟨q,rfl,hq,(Qa hKK).trans hk2⟩
open Go.RowKit
abbrev givP (x:Int):PanicEntry:= { v:= .iface 39 (.int .i64 x),recovered:=false }
theorem assert39 (x:Int) (w:World):(Instr.typeAssert (.iface 39 (.int .i64 x)) 20 39 false).run Tryz.prog w= .ok (.int .i64 x) w:=by kernel_rfl
theorem give_no (w:World):Calls Tryz.prog 133 #[.int .i64 0] w fun e w'=>e= .returned (.tuple #[])∧w'=w:=by
 go_enter Tryz.func133,Tryz.ntmps133
 go_wp2
 go_end0
 exact⟨rfl,rfl⟩
theorem give_yes (x:Int) (hx:x≠0) (w:World):Calls Tryz.prog 133 #[.int .i64 x] w fun e w'=>e= .panicked [givP x]∧w'=w:=by
 have hd:(x == 0)=false:=by simpa using hx
 go_enter Tryz.func133,Tryz.ntmps133
 go_wp2
 exact⟨rfl,rfl,rfl⟩
theorem catch103_panicking (p:Addr) (x y:Int) (older:List PanicEntry) (w:World) (hc:w.cell? p=some (.int .i64 y)) (hz:w.frozen? p=false):
  CallsD Tryz.prog 103 #[.pointer (some p)] (.panicking (givP x::older)) w fun e u' w'=>
   e= .returned (.tuple #[])∧u'= .panicking ({ givP x with recovered:=true } ::older)∧w'=w.setCell p (.int .i64 x):=by
 refine callsD_of_wpS Tryz.func103 rfl fun c₀ cs hu=> ?_;apply wpS_seq;apply wpS_region;simp [wpOpsS,go_sem,recoverD,hu,Tryz.ntmps103,Exit.thenS];apply wpS_seq;apply wpS_region;simp [wpOpsS,go_sem,Exit.thenS];refine wpS_cond (t:=true) (by simp [Act.eval,Array.replicate]) ?_;simp only [if_true];apply wpS_region;simp [wpOpsS,go_sem,hc,hz,bodyPostS,results,Tryz.results103,assert39]
theorem catch103_idle (p:Addr) (w:World):
  CallsD Tryz.prog 103 #[.pointer (some p)] .returning w fun e u' w'=>e= .returned (.tuple #[])∧u'= .returning∧w'=w:=by
 refine callsD_of_wpS Tryz.func103 rfl fun c₀ cs hu=> ?_;apply wpS_seq;apply wpS_region;simp [wpOpsS,go_sem,recoverD,hu,Tryz.ntmps103,Exit.thenS];apply wpS_seq;apply wpS_region;simp [wpOpsS,go_sem,Exit.thenS];refine wpS_cond (t:=false) (by simp [Act.eval,Array.replicate]) ?_;simp only [Bool.false_eq_true,if_false];refine wpS_of_wp (wp_skip ?_);cases c₀
 simp_all [bodyPostS,results,Tryz.results103]
theorem catch118_panicking (p:Addr) (x y:Int) (older:List PanicEntry) (w:World) (hc:w.cell? p=some (.int .i64 y)) (hz:w.frozen? p=false):
  CallsD Tryz.prog 118 #[.pointer (some p)] (.panicking (givP x::older)) w fun e u' w'=>
   e= .returned (.tuple #[])∧u'= .panicking ({ givP x with recovered:=true } ::older)∧w'=w.setCell p (.int .i64 x):=by
 refine callsD_of_wpS Tryz.func118 rfl fun c₀ cs hu=> ?_;apply wpS_seq;apply wpS_region;simp [wpOpsS,go_sem,recoverD,hu,Tryz.ntmps118,Exit.thenS];apply wpS_seq;apply wpS_region;simp [wpOpsS,go_sem,Exit.thenS];refine wpS_cond (t:=true) (by simp [Act.eval,Array.replicate]) ?_;simp only [if_true];apply wpS_region;simp [wpOpsS,go_sem,hc,hz,bodyPostS,results,Tryz.results118,assert39]
theorem catch118_idle (p:Addr) (w:World):
  CallsD Tryz.prog 118 #[.pointer (some p)] .returning w fun e u' w'=>e= .returned (.tuple #[])∧u'= .returning∧w'=w:=by
 refine callsD_of_wpS Tryz.func118 rfl fun c₀ cs hu=> ?_;apply wpS_seq;apply wpS_region;simp [wpOpsS,go_sem,recoverD,hu,Tryz.ntmps118,Exit.thenS];apply wpS_seq;apply wpS_region;simp [wpOpsS,go_sem,Exit.thenS];refine wpS_cond (t:=false) (by simp [Act.eval,Array.replicate]) ?_;simp only [Bool.false_eq_true,if_false];refine wpS_of_wp (wp_skip ?_);cases c₀
 simp_all [bodyPostS,results,Tryz.results118]
theorem catch152_panicking (p:Addr) (x y:Int) (older:List PanicEntry) (w:World) (hc:w.cell? p=some (.int .i64 y)) (hz:w.frozen? p=false):
  CallsD Tryz.prog 152 #[.pointer (some p)] (.panicking (givP x::older)) w fun e u' w'=>
   e= .returned (.tuple #[])∧u'= .panicking ({ givP x with recovered:=true } ::older)∧w'=w.setCell p (.int .i64 x):=by
 refine callsD_of_wpS Tryz.func152 rfl fun c₀ cs hu=> ?_;apply wpS_seq;apply wpS_region;simp [wpOpsS,go_sem,recoverD,hu,Tryz.ntmps152,Exit.thenS];apply wpS_seq;apply wpS_region;simp [wpOpsS,go_sem,Exit.thenS];refine wpS_cond (t:=true) (by simp [Act.eval,Array.replicate]) ?_;simp only [if_true];apply wpS_region;simp [wpOpsS,go_sem,hc,hz,bodyPostS,results,Tryz.results152,assert39]
theorem catch152_idle (p:Addr) (w:World):
  CallsD Tryz.prog 152 #[.pointer (some p)] .returning w fun e u' w'=>e= .returned (.tuple #[])∧u'= .returning∧w'=w:=by
 refine callsD_of_wpS Tryz.func152 rfl fun c₀ cs hu=> ?_;apply wpS_seq;apply wpS_region;simp [wpOpsS,go_sem,recoverD,hu,Tryz.ntmps152,Exit.thenS];apply wpS_seq;apply wpS_region;simp [wpOpsS,go_sem,Exit.thenS];refine wpS_cond (t:=false) (by simp [Act.eval,Array.replicate]) ?_;simp only [Bool.false_eq_true,if_false];refine wpS_of_wp (wp_skip ?_);cases c₀
 simp_all [bodyPostS,results,Tryz.results152]
end Go.Proofs.YtcfflbafclmheaaGreatDoor
namespace Go.Proofs.YtcfflbafclmheaaGreatDoor.Le
open Go.RowKit
def I64 (n:Int):Prop:= -9223372036854775808≤n∧n≤9223372036854775807
structure Le where
 ep:Int
 be:Int
 re:Int
deriving DecidableEq
structure Lk where
 is:Bool
 said:Le
 age:Int
deriving DecidableEq
structure Wt where
 n:Int
 p:Int
 ls:List Lk
deriving DecidableEq
structure Byts (n:Nat) (s:List Int):Prop where
 len:s.length=n
 byte:∀x∈s,0≤x∧x<256
def zs (n:Nat):List Int:=List.replicate n 0
theorem zs_byts (n:Nat):Byts n (zs n):=⟨by simp [zs],fun x hx=>by simp [zs] at hx;omega⟩
def Le.C (l:Le):List Value:= [.int .i64 l.ep,.int .i64 l.be,.int .i64 l.re]
def Lk.C (k:Lk):List Value:= [.bool k.is,.int .i64 k.said.ep,.int .i64 k.said.be,.int .i64 k.said.re,.int .i64 k.age]
def lksC (l:List Lk):List Value:=(l.map Lk.C).flatten
def Wt.C (v:Wt):List Value:= .int .i64 v.n:: .int .i64 v.p::lksC v.ls
def le0:Le:=⟨0,0,0⟩
theorem QV (l:Le):∀v∈l.C,v.oneCell'=true:=by
 intro v hv;simp only [Le.C,List.mem_cons,List.mem_nil_iff,or_false] at hv;rcases hv with rfl | rfl | rfl <;> rfl
theorem QC:Row 73 3:=⟨_,Tryz.underlying73,rfl,by kernel_rfl⟩
theorem row25:Row 59 64:=⟨_,Tryz.underlying59,rfl,by kernel_rfl⟩
theorem QT (w:World):(Instr.alloc 73 true (.tuple #[])).run Tryz.prog w= .ok (P0 w.heap.size) (w.alloc (.cells le0.C.toArray 73)):=by kernel_rfl
theorem build23 (w:World):(Instr.build 73 #[]).run Tryz.prog w= .ok (Qd le0.C) w:=by kernel_rfl
theorem zero25 (w:World):(Instr.alloc 59 true (.tuple #[])).run Tryz.prog w= .ok (P0 w.heap.size) (w.alloc (.cells (u8s (zs 64)).toArray 59)):=by kernel_rfl
theorem build23p (w:World) (a b c:Int):(Instr.build 73 #[(0,.int .i64 a),(1,.int .i64 b),(2,.int .i64 c)]).run Tryz.prog w= .ok (Qd (Le.mk a b c).C) w:=by kernel_rfl
theorem guard23:Tryz.prog.eqGuardType Tryz.prog.depth 73=false:=by kernel_rfl
theorem guard25:Tryz.prog.eqGuardType Tryz.prog.depth 59=false:=by kernel_rfl
theorem fields23 : (Tryz.prog.fieldsOf 73).toList.map (fun f => (decide (f.name ≠ "_"), f.type, f.offset)) = [(true, 2, 0), (true, 2, 1), (true, 2, 2)] := by kernel_rfl
theorem str23:Tryz.prog.underlying 73=some (.struct (Tryz.prog.fieldsOf 73)):=by kernel_rfl
theorem part4 (W:World) (vs:Array Value) (o:Nat) (v:Value) (h:vs[o]?=some v):(part 4 vs o).run Tryz.prog W= .ok v W:=by simp [part,isAgg,run_underlying Tryz.underlying4,h]
theorem eq4 (W:World) (d:Nat) (x y:Bool):(Op.equalIn (d+1) 4 (.bool x) (.bool y)).run Tryz.prog W= .ok (decide (x=y)) W:=by
 simp [Op.equalIn,Sem.run_bind,run_underlying Tryz.underlying4];cases x <;> cases y <;> rfl
theorem part_agg (W:World) (T n:Nat) (hT:Row T n) (pre vs post:List Value) (o:Nat) (ho:pre.length=o) (hl:vs.length=n):(part T (pre++vs++post).toArray o).run Tryz.prog W= .ok (Qd vs) W:=by
 obtain⟨d,h1,h2,h3⟩:=hT;cases hq:Tryz.prog.info? T with
 | none=>simp [hq] at h3
 | some i=>
  have hs:i.size=n:=by simpa [hq] using h3
  have hagg:(isAgg T).run Tryz.prog W= .ok true W:=by
   unfold isAgg;rw [Sem.run_bind,run_underlying h1 W];cases d <;> simp_all
  have he:((pre++vs++post).toArray.extract o (o+n))=vs.toArray:=by
   subst ho hl;simp [List.extract_toArray,List.extract_eq_take_drop]
  simp [part,Sem.run_bind,hagg,sizeOf,typeInfo,hq,hs,Qd];simpa using he
theorem items_step (W:World) (d T n i o:Nat) (xs ys:Array Value) (is:List Nat) (a b:Value) (c e:Bool) (ho:i*n=o) (pa:(part T xs o).run Tryz.prog W= .ok a W) (pb:(part T ys o).run Tryz.prog W= .ok b W) (he:(Op.equalIn d T a b).run Tryz.prog W= .ok c W) (hf:(Op.eqItems d T n xs ys is).run Tryz.prog W= .ok e W):
  (Op.eqItems d T n xs ys (i::is)).run Tryz.prog W= .ok (c&&e) W:=by
 subst ho;simp only [Op.eqItems,Sem.run_bind,pa,pb,he,Result.andThen_ok];cases c <;> simp [hf]
theorem equal23 (W:World) (d:Nat) (m q:Le):(Op.equalIn (d+2) 73 (Qd m.C) (Qd q.C)).run Tryz.prog W= .ok (decide (m=q)) W:=by
 have hh:=run_equalIn_struct (P:=Tryz.prog) W (d+1) 73 m.C.toArray q.C.toArray str23 (by kernel_rfl);refine hh.trans ?_;generalize hf:(Tryz.prog.fieldsOf 73).toList=fs;have hm:=fields23;rw [hf] at hm
 match fs,hm with
 | [a,g,k],hm=>
  simp only [List.map_cons,List.map_nil,List.cons.injEq,Prod.mk.injEq,and_true,decide_eq_true_eq] at hm;obtain⟨⟨a1,a2,a3⟩,⟨g1,g2,g3⟩,k1,k2,k3⟩:=hm;have hh:=Zp W (d+1) 2 0 _ _ a [g,k] _ _ _ _ a1 a2 a3 (part2 W m.C.toArray 0 (.int .i64 m.ep) rfl) (part2 W q.C.toArray 0 (.int .i64 q.ep) rfl) (eq2 W d m.ep q.ep)
   (Zp W (d+1) 2 1 _ _ g [k] _ _ _ _ g1 g2 g3 (part2 W m.C.toArray 1 (.int .i64 m.be) rfl) (part2 W q.C.toArray 1 (.int .i64 q.be) rfl) (eq2 W d m.be q.be)
   (Zp W (d+1) 2 2 _ _ k [] _ _ _ _ k1 k2 k3 (part2 W m.C.toArray 2 (.int .i64 m.re) rfl) (part2 W q.C.toArray 2 (.int .i64 q.re) rfl) (eq2 W d m.re q.re)
   (fields_nil ..)))
  rw [Bool.and_true] at hh;rw [hh];congr 1;rw [Bool.eq_iff_iff];cases m;cases q;simp
theorem eqL23 (W:World) (m q:Le):(Op.equal 73 (Qd m.C) (Qd q.C)).run Tryz.prog W= .ok (decide (m=q)) W:=equal23 W 9998 m q
theorem Tryz.info5:(Tryz.prog.info? 5).map (fun i=>(i.zero,i.size,i.bytes))=some (some (.int .u8 0),1,1):=by kernel_rfl
theorem Tryz.cells5:Tryz.prog.cellsOf 5=1:=by kernel_rfl
theorem eq5 (W:World) (d:Nat) (x y:Int):(Op.equalIn (d+1) 5 (.int .u8 x) (.int .u8 y)).run Tryz.prog W= .ok (decide (x=y)) W:=by
 simp [Op.equalIn,Sem.run_bind,run_underlying Tryz.underlying5];rw [Bool.eq_iff_iff];simp
theorem items_byts (W:World) (d n:Nat) (s t:List Int) (hs:s.length=n) (ht:t.length=n):∀is:List Nat,(∀i∈is,i<n)→
  (Op.eqItems (d+1) 5 1 (u8s s).toArray (u8s t).toArray is).run Tryz.prog W= .ok (decide (∀i∈is,s[i]?=t[i]?)) W:=by
 have h2:∀(xs:Array Value) (j:Nat) (v:Value),xs[j]?=some v→(part 5 xs j).run Tryz.prog W= .ok v W:=by
  intro xs j v hj;simp [part,isAgg,run_underlying Tryz.underlying5,hj]
 intro is
 induction is with
 | nil=>intro _;simp [Op.eqItems]
 | cons i is ih=>
  intro hi;have hi0:=hi i (List.mem_cons_self ..);have h3:(part 5 (u8s s).toArray (i*1)).run Tryz.prog W= .ok (.int .u8 (s[i]'(by omega))) W:=h2 _ _ _ (by simp [u8s,show i<s.length by omega]);have h4:(part 5 (u8s t).toArray (i*1)).run Tryz.prog W= .ok (.int .u8 (t[i]'(by omega))) W:=h2 _ _ _ (by simp [u8s,show i<t.length by omega]);simp only [Op.eqItems,Sem.run_bind,h3,h4,Result.andThen_ok,eq5];by_cases he:s[i]'(by omega)=t[i]'(by omega)
  · have:=ih (fun j hj=>hi j (List.mem_cons_of_mem _ hj));simp [he,this,show i<s.length by omega,show i<t.length by omega]
  · simp [he,show i<s.length by omega,show i<t.length by omega]
theorem equal_byts (W:World) (T n d:Nat) (hu:Tryz.prog.underlying T=some (.array n 5)) (s t:List Int) (hs:s.length=n) (ht:t.length=n):(Op.equalIn (d+2) T (Qd (u8s s)) (Qd (u8s t))).run Tryz.prog W= .ok (decide (s=t)) W:=by
 obtain⟨i0,hi,_⟩:=info_parts Tryz.info5;have h:=run_equalIn_array (P:=Tryz.prog) W (d+1) (u8s s).toArray (u8s t).toArray hu hi;rw [Tryz.cells5,items_byts W d n s t hs ht (List.range n) (by simp)] at h;have hd:decide (∀i∈List.range n,s[i]?=t[i]?)=decide (s=t):=by
  rw [decide_eq_decide];constructor
  · intro h;apply List.ext_getElem?;intro i;by_cases hi:i<n
    · exact h i (by simpa using hi)
    · rw [List.getElem?_eq_none (by omega),List.getElem?_eq_none (by omega)]
  · intro h i _;rw [h]
 rw [hd] at h;exact h
theorem equal25 (W:World) (s t:List Int) (hs:s.length=64) (ht:t.length=64):(Op.equal 59 (Qd (u8s s)) (Qd (u8s t))).run Tryz.prog W= .ok (decide (s=t)) W:=equal_byts W 59 64 9998 (by kernel_rfl) s t hs ht
open Go.RowKit
structure Mm (X:List Nat) (w0 w:World) (bs:List (Nat×Nat×List Value)):Prop where
 kept:Kept X w0 w
 blk:∀x∈bs,Blk w x.1 x.2.1 x.2.2
 own:∀x∈bs,x.1<w0.heap.size→x.1∈X
 nd:(bs.map (·.1)).Nodup
theorem Mm.init {X:List Nat} {w:World} :Mm X w w []:=⟨Kept.refl _ _,(fun x hx=>by cases hx),(fun x hx=>by cases hx),List.nodup_nil⟩
theorem Mm.one {w:World} {b T:Nat} {vs:List Value} (h:Blk w b T vs):Mm [b] w w [(b,T,vs)]:=⟨Kept.refl _ _,(fun x hx=>by simp at hx;subst hx;exact h),(fun x hx _=>by simp at hx;subst hx;simp),by simp⟩
theorem Mm.two {w:World} {b T c U:Nat} {vs us:List Value} (h:Blk w b T vs) (k:Blk w c U us) (hne:b≠c):Mm [b,c] w w [(b,T,vs),(c,U,us)]:=
 ⟨Kept.refl _ _,(fun x hx=>by simp at hx;rcases hx with rfl | rfl;exact h;exact k),(fun x hx _=>by simp at hx;rcases hx with rfl | rfl <;> simp),by simp [hne]⟩
variable {X:List Nat}
theorem Mm.step {w0 w w':World} {bs:List (Nat×Nat×List Value)} (h:Mm X w0 w bs) (hk:Kept [] w w'):Mm X w0 w' bs:=
 ⟨h.kept.trans (hk.mono (by simp)),fun x hx=>(h.blk x hx).kept hk (by simp),h.own,h.nd⟩
theorem Mm.drew {w0 W:World} {bs:List (Nat×Nat×List Value)} (h:Mm X w0 W bs):Mm X w0 W.drew bs:=⟨h.kept.drew,fun x hx=>(h.blk x hx).drew,h.own,h.nd⟩
theorem Mm.new {w0 w W:World} {bs:List (Nat×Nat×List Value)} {b T:Nat} {vs:List Value} (h:Mm X w0 w bs) (hb:b=w.heap.size) (B:Blk W b T vs) (K:Kept [] w W):Mm X w0 W (bs++ [(b,T,vs)]):=by
 have h':=h.step K;have hs:=h.kept.size;refine⟨h'.kept,?_,?_,?_⟩
 · intro x hx;rcases List.mem_append.1 hx with hx | hx
   · exact h'.blk x hx
   · simp at hx;subst hx;exact B
 · intro x hx hl;rcases List.mem_append.1 hx with hx | hx
   · exact h.own x hx hl
   · simp at hx;subst hx;simp at hl;omega
 · rw [List.map_append,List.nodup_append];refine⟨h.nd,by simp,?_⟩;intro a ha c hc;simp at hc;subst hc;obtain⟨x,hx,rfl⟩:=List.mem_map.1 ha;have:=(h.blk x hx).lt;omega
theorem Mm.at {w0 w:World} {bs:List (Nat×Nat×List Value)} (h:Mm X w0 w bs) (i:Nat) (x:Nat×Nat×List Value) (hx:bs[i]?=some x):Blk w x.1 x.2.1 x.2.2:=h.blk x (List.mem_of_getElem? hx)
theorem Mm.mut {w0 w w':World} {bs:List (Nat×Nat×List Value)} (h:Mm X w0 w bs) (i:Nat) {b T:Nat} {us vs:List Value} (hi:bs[i]?=some (b,T,us)) (hk:Kept [b] w w') (hB:Blk w' b T vs):Mm X w0 w' (bs.set i (b,T,vs)):=by
 have h0:=h.own _ (List.mem_of_getElem? hi);refine⟨h.kept.fresh hk (fun k hk' hl=>by simp at hk';subst hk';exact h0 hl),?_,?_,?_⟩
 · intro x hx;obtain⟨j,hj,rfl⟩:=List.getElem_of_mem hx;rw [List.length_set] at hj;by_cases hij:i=j
   · subst hij;rw [List.getElem_set_self];exact hB
   · rw [List.getElem_set_ne hij];have hm:=h.blk bs[j] (List.getElem_mem hj);refine hm.kept hk ?_;simp only [List.mem_singleton];intro e;have h1:=(List.getElem?_eq_some_iff.1 hi);obtain⟨hi',hi''⟩:=h1;have:=List.pairwise_iff_getElem.1 h.nd;rcases Nat.lt_or_gt_of_ne hij with hlt | hlt
     · have:=this i j (by simpa using hi') (by simpa using hj) hlt;simp [hi''] at this;exact this e.symm
     · have:=this j i (by simpa using hj) (by simpa using hi') hlt;simp [hi''] at this;exact this e
 · intro x hx hl;obtain⟨j,hj,rfl⟩:=List.getElem_of_mem hx;rw [List.length_set] at hj;by_cases hij:i=j
   · subst hij;rw [List.getElem_set_self] at hl⊢;exact h0 hl
   · rw [List.getElem_set_ne hij] at hl⊢;exact h.own bs[j] (List.getElem_mem hj) hl
 · have:(bs.set i (b,T,vs)).map (·.1)=bs.map (·.1):=by
     rw [List.map_set];apply List.ext_getElem?;intro j;by_cases hij:i=j
     · subst hij;have h1:=(List.getElem?_eq_some_iff.1 hi);obtain⟨hi',hi''⟩:=h1;simp [hi',hi'']
     · rw [List.getElem?_set_ne hij]
   rw [this];exact h.nd
theorem Mm.sets {w0 w:World} {bs:List (Nat×Nat×List Value)} (h:Mm X w0 w bs) (i:Nat) {b T:Nat} {us:List Value} (hi:bs[i]?=some (b,T,us)) (vs:List Value) (hl:us.length=vs.length):Mm X w0 (w.setCells b 0 vs) (bs.set i (b,T,vs)):=
 h.mut i hi ((Kept.refl _ _).setCells _ _ (by simp)) ((h.at i _ hi).put hl)
theorem Mm.less {w0 w:World} {bs cs:List (Nat×Nat×List Value)} (h:Mm X w0 w bs) (hs:List.Sublist cs bs):Mm X w0 w cs:=
 ⟨h.kept,fun x hx=>h.blk x (hs.subset hx),fun x hx=>h.own x (hs.subset hx),h.nd.sublist (hs.map _)⟩
section
variable {ops:Array Oper} {rest:List Oper} {op:Oper} {a:Act} {w w0:World} {Q:Exit→Act→World→Prop} {bs:List (Nat×Nat×List Value)}
theorem Qh {T n:Nat} (hT:Row T n) (hgd:op.guard=none) (x y:Operand) (ho:op.op= .store T x y) (hd:op.dst=none) (b i:Nat) (vs:List Value) (hx:a.eval x=P0 b) (hy:a.eval y=Qd vs) (hl:vs.length=n) (h1:∀v∈vs,v.oneCell'=true) (hM:Mm X w0 w bs) {us:List Value} (hi:bs[i]?=some (b,T,us)) (hu:us.length=n)
  (h:∀W,Mm X w0 W (bs.set i (b,T,vs))→wpList Tryz.prog ops Q rest a W):wpList Tryz.prog ops Q (op::rest) a w:=by
 refine wpStoreA hT hgd x y ho b 0 vs hx hy hl h1 ((hM.at i _ hi).there (by simp [hu])) ?_;rw [hd];exact h _ (hM.sets i hi vs (by omega))
theorem size2:(Tryz.prog.info? 2).map (·.size)=some 1:=by kernel_rfl
theorem size3:(Tryz.prog.info? 3).map (·.size)=some 1:=by kernel_rfl
theorem size4:(Tryz.prog.info? 4).map (·.size)=some 1:=by kernel_rfl
theorem size5:(Tryz.prog.info? 5).map (·.size)=some 1:=by kernel_rfl
theorem storeVar1 {T:Nat} (hi:(Tryz.prog.info? T).map (·.size)=some 1) {w:World} {b off TT:Nat} {us:List Value} (hB:Blk w b TT us) (hl:off<us.length) (v:Value) (h1:v.oneCell'=true) (hc1:v.cells= #[v]):(storeVar T ⟨b,off,none⟩ v).run Tryz.prog w= .ok () (w.setCell ⟨b,off,none⟩ v):=by
 have hc:=hB.cell off;rw [List.getElem?_eq_getElem hl] at hc;have hf:=hB.frozen off;have g1:∀j,j< [v].length→(w.cell? ⟨b,off+0+j,none⟩).isSome=true:=by
  intro j hj;have e:j=0:=by simpa using hj
  subst e;simp [hc]
 have g2:∀j,j< [v].length→w.frozen? ⟨b,off+0+j,none⟩=false:=by
  intro j hj;have e:j=0:=by simpa using hj
  subst e;simpa using hf
 have:=run_storeCells_cells (P:=Tryz.prog) b off [v] 0 w g1 g2 (fun u hu=>by simp at hu;subst hu;exact h1);cases hq:Tryz.prog.info? T with
 | none=>simp [hq] at hi
 | some i=>
  have hs:i.size=1:=by simpa [hq] using hi
  simp [storeVar,hc1,sizeOf,typeInfo,hq,hs];simpa [World.setCells] using this
def One (v:Value):Prop:=v.oneCell'=true∧v.cells= #[v]
theorem Qo {T:Nat} (hs:(Tryz.prog.info? T).map (·.size)=some 1) (hgd:op.guard=none) (x y:Operand) (ho:op.op= .store T x y) (hd:op.dst=none) (b off i:Nat) (v:Value) (h1:One v) (hx:a.eval x= .pointer (some ⟨b,off,none⟩)) (hy:a.eval y=v) (hM:Mm X w0 w bs) {TT:Nat} {us:List Value} (hi:bs[i]?=some (b,TT,us)) (hl:off<us.length)
  (h:∀W,Mm X w0 W (bs.set i (b,TT,us.set off v))→wpList Tryz.prog ops Q rest a W):wpList Tryz.prog ops Q (op::rest) a w:=
 wpList_plain hgd fun K hK=>by
  have hst:=storeVar1 hs (hM.at i _ hi) hl v h1.1 h1.2;unfold Oper.wp execOp;simp only [ho,hx,hy,Instr.storeAt,Instr.sureAddr,Sem.run_bind,Sem.run_pure,Result.andThen_ok,hst];refine hK _ _ ?_;rw [hd];exact h _ (hM.mut i hi ((Kept.refl _ _).setCell (by simp) v) ((hM.at i _ hi).set v))
end
def Le.may (l:Le):Bool:=decide (0≤l.ep∧l.ep≤2147483647∧0≤l.be∧l.be≤4611686018427387904∧0≤l.re∧l.re≤4611686018427387904)
def isN (n:Int):Bool:=decide (0≤n∧n≤4611686018427387904)
theorem isNumber41 (n:Int) (w:World):Calls Tryz.prog 150 #[.int .i64 n] w fun e w'=>e= .returned (.bool (isN n))∧w'=w:=by
 by_cases h1:0≤n
 · go_enter Tryz.func150,Tryz.ntmps150
   go_wp2_with fail
   go_ret
   exact⟨QB (by simp [isN];omega),rfl⟩
 · go_enter Tryz.func150,Tryz.ntmps150
   go_wp2_with fail
   go_ret
   exact⟨QB (by simp [isN];omega),rfl⟩
theorem may24 (l:Le) (w:World):Calls Tryz.prog 123 #[Qd l.C] w fun e w'=>e= .returned (.bool l.may)∧Kept [] w w':=by
 by_cases h1:0≤l.ep
 rotate_left
 · have d1:decide (0≤l.ep)=false:=by simpa using h1
   go_enter Tryz.func123,Tryz.ntmps123
   have M:Hid (Mm [] w w []):=hide Mm.init;go_wp2_with (first |(refine Qp rfl (.tmp 0) rfl (l.C) rfl ?_;intro W1 b1 e1 B1 K1;replace M:=hide ((Qa M).new e1 B1 K1);clear e1 B1 K1;have c0:=Qb ((Qa M).at 0 _ rfl) 0 _ rfl;have c1:=Qb ((Qa M).at 0 _ rfl) 1 _ rfl;have c2:=Qb ((Qa M).at 0 _ rfl) 2 _ rfl;refine Stp.go ?_))
   constructor
   go_wp2_with fail
   go_ret
   exact⟨QB (by simp [Le.may];omega),(Qa M).kept⟩
 by_cases h2:l.ep≤2147483647
 rotate_left
 · have d1:decide (0≤l.ep)=true:=by simpa using h1
   have d2:decide (l.ep≤2147483647)=false:=by simpa using h2
   go_enter Tryz.func123,Tryz.ntmps123
   have M:Hid (Mm [] w w []):=hide Mm.init;go_wp2_with (first |(refine Qp rfl (.tmp 0) rfl (l.C) rfl ?_;intro W1 b1 e1 B1 K1;replace M:=hide ((Qa M).new e1 B1 K1);clear e1 B1 K1;have c0:=Qb ((Qa M).at 0 _ rfl) 0 _ rfl;have c1:=Qb ((Qa M).at 0 _ rfl) 1 _ rfl;have c2:=Qb ((Qa M).at 0 _ rfl) 2 _ rfl;refine Stp.go ?_))
   constructor
   go_wp2_with fail
   go_ret
   exact⟨QB (by simp [Le.may];omega),(Qa M).kept⟩
 have d1:decide (0≤l.ep)=true:=by simpa using h1
 have d2:decide (l.ep≤2147483647)=true:=by simpa using h2
 cases h3:isN l.be with
 | false=>
   have P41:∀W,Hid (Calls Tryz.prog 150 #[.int .i64 l.be] W fun e w'=>e= .returned (.bool false)∧w'=W):=fun W=>hide (by have:=isNumber41 l.be W;rw [h3] at this;exact this);have h3b:¬(0≤l.be∧l.be≤4611686018427387904):=by simpa [isN] using h3
   clear h3;go_enter Tryz.func123,Tryz.ntmps123
   have M:Hid (Mm [] w w []):=hide Mm.init;go_wp2_with (first |(refine Qp rfl (.tmp 0) rfl (l.C) rfl ?_;intro W1 b1 e1 B1 K1;replace M:=hide ((Qa M).new e1 B1 K1);clear e1 B1 K1;have c0:=Qb ((Qa M).at 0 _ rfl) 0 _ rfl;have c1:=Qb ((Qa M).at 0 _ rfl) 1 _ rfl;have c2:=Qb ((Qa M).at 0 _ rfl) 2 _ rfl;refine Stp.go ?_))
   constructor
   go_wp2_with (first |(go_at_call 150;refine(Qa (P41 _)).mono ?_;rintro e w2 ⟨rfl,rfl⟩;clear P41;refine Stp.go ?_))
   constructor
   go_wp2_with fail
   go_ret
   exact⟨QB (by simp [Le.may];omega),(Qa M).kept⟩
 | true=>
   have P41:∀W,Hid (Calls Tryz.prog 150 #[.int .i64 l.be] W fun e w'=>e= .returned (.bool true)∧w'=W):=fun W=>hide (by have:=isNumber41 l.be W;rw [h3] at this;exact this);have h3b:(0≤l.be∧l.be≤4611686018427387904):=by simpa [isN] using h3
   clear h3;cases h4:isN l.re with
   | false=>
    have Q41:∀W,Hid (Calls Tryz.prog 150 #[.int .i64 l.re] W fun e w'=>e= .returned (.bool false)∧w'=W):=fun W=>hide (by have:=isNumber41 l.re W;rw [h4] at this;exact this);have h4b:¬(0≤l.re∧l.re≤4611686018427387904):=by simpa [isN] using h4
    clear h4;go_enter Tryz.func123,Tryz.ntmps123
    have M:Hid (Mm [] w w []):=hide Mm.init;go_wp2_with (first |(refine Qp rfl (.tmp 0) rfl (l.C) rfl ?_;intro W1 b1 e1 B1 K1;replace M:=hide ((Qa M).new e1 B1 K1);clear e1 B1 K1;have c0:=Qb ((Qa M).at 0 _ rfl) 0 _ rfl;have c1:=Qb ((Qa M).at 0 _ rfl) 1 _ rfl;have c2:=Qb ((Qa M).at 0 _ rfl) 2 _ rfl;refine Stp.go ?_))
    constructor
    go_wp2_with (first |(go_at_call 150;refine(Qa (P41 _)).mono ?_;rintro e w2 ⟨rfl,rfl⟩;clear P41;refine Stp.go ?_))
    constructor
    go_wp2_with (first |(go_at_call 150;refine(Qa (Q41 _)).mono ?_;rintro e w2 ⟨rfl,rfl⟩;clear Q41;refine Stp.go ?_))
    constructor
    go_wp2_with fail
    go_ret
    exact⟨QB (by simp [Le.may];omega),(Qa M).kept⟩
   | true=>
    have Q41:∀W,Hid (Calls Tryz.prog 150 #[.int .i64 l.re] W fun e w'=>e= .returned (.bool true)∧w'=W):=fun W=>hide (by have:=isNumber41 l.re W;rw [h4] at this;exact this);have h4b:(0≤l.re∧l.re≤4611686018427387904):=by simpa [isN] using h4
    clear h4;go_enter Tryz.func123,Tryz.ntmps123
    have M:Hid (Mm [] w w []):=hide Mm.init;go_wp2_with (first |(refine Qp rfl (.tmp 0) rfl (l.C) rfl ?_;intro W1 b1 e1 B1 K1;replace M:=hide ((Qa M).new e1 B1 K1);clear e1 B1 K1;have c0:=Qb ((Qa M).at 0 _ rfl) 0 _ rfl;have c1:=Qb ((Qa M).at 0 _ rfl) 1 _ rfl;have c2:=Qb ((Qa M).at 0 _ rfl) 2 _ rfl;refine Stp.go ?_))
    constructor
    go_wp2_with (first |(go_at_call 150;refine(Qa (P41 _)).mono ?_;rintro e w2 ⟨rfl,rfl⟩;clear P41;refine Stp.go ?_))
    constructor
    go_wp2_with (first |(go_at_call 150;refine(Qa (Q41 _)).mono ?_;rintro e w2 ⟨rfl,rfl⟩;clear Q41;refine Stp.go ?_))
    constructor
    go_wp2_with fail
    go_ret
    exact⟨QB (by simp [Le.may];omega),(Qa M).kept⟩
open Go.RowKit
section
variable {o:Oper} {a:Act} {w:World} {K:Act→World→Prop} {Q:Exit→Act→World→Prop} {ops:Array Oper} {rest:List Oper} {op:Oper}
theorem Qj {St:(Nat→Bool)→(Nat→Value)→World→Prop} {l:Array Bool} {vs:Nat→Value} {j:Nat} {v:Value} {w:World} (sp:List Nat) (hloc:∀b b' vs vs' W,(∀i∈sp,b i=b' i∧vs i=vs' i)→St b vs W→St b' vs' W) (hj:j<l.size) (hn:sp.all (fun i=>i !=j)=true) (h:St (fun i=>l.getD i false) vs w):St (fun i=>(l.setIfInBounds j true).getD i false) (fun i=>if i=j then v else vs i) w:=by
 refine hloc _ _ _ _ _ (fun i hi=> ?_) h;have hne:i≠j:=by have:=List.all_eq_true.1 hn i hi;simpa using this
 exact⟨by rw [Zn hj];simp [hne],by simp [hne]⟩
theorem QJ {St:(Nat→Bool)→(Nat→Value)→World→Prop} {l:Array Bool} {vs:Nat→Value} {j:Nat} {v:Value} {w:World} (hj:j<l.size) (h:St (fun i=>if i=j then true else l.getD i false) (fun i=>if i=j then v else vs i) w):St (fun i=>(l.setIfInBounds j true).getD i false) (fun i=>if i=j then v else vs i) w:=by
 have e:(fun i=>(l.setIfInBounds j true).getD i false)=(fun i=>if i=j then true else l.getD i false):=by
  funext i;exact Zn hj false
 rw [e];exact h
theorem Zb {ops:Array Oper} {rest:List Oper} {op:Oper} {a:Act} {w:World} {Q:Exit→Act→World→Prop} {T n:Nat} (hT:Row T n) (x:Operand) (ho:op.op= .load T x) (hw:Region.wanted op (yielded ops a.tmps)=true) (b off:Nat) (hx:a.eval x= .pointer (some ⟨b,off,none⟩)) (vs:List Value) (hl:vs.length=n) (hA:w.rangeAt b off vs)
  (h:wpList Tryz.prog ops Q rest (a.put op.dst (Qd vs)) w):wpList Tryz.prog ops Q (op::rest) a w:=
 BigFrame.wpList_want hw fun _ hK=>Qw hT x ho b off hx vs hl hA (hK _ _ h)
theorem o_neqA (T r:Nat) (hG:Tryz.prog.eqGuardType Tryz.prog.depth T=false) {o:Oper} {a:Act} {w:World} {K:Act→World→Prop} {Q:Exit→Act→World→Prop} (x y:Operand) (ho:o.op= .binOp .neq T x y r) (vs us:List Value) (hx:a.eval x=Qd vs) (hy:a.eval y=Qd us) (c:Bool)
  (he:(Op.equal T (Qd vs) (Qd us)).run Tryz.prog w= .ok c w) (h:K (a.put o.dst (.bool (!c))) w):o.wp Tryz.prog a w K Q:=by
 unfold Oper.wp execOp;simp only [Qd] at he hx hy;have hg:(eqGuard .neq T x y (.agg vs.toArray) (.agg us.toArray)).run Tryz.prog w= .ok () w:=by simp [eqGuard,Sem.run_bind,hG]
 have hb:(binOp BinOp.neq T (.agg vs.toArray) (.agg us.toArray)).run Tryz.prog w= .ok (.bool (!c)) w:=by simp only [binOp,Sem.run_bind,he,Result.andThen_ok,Sem.run_pure]
 simp only [ho,hx,hy,Sem.run_bind,hg,hb,Result.andThen_ok];exact h
theorem Zx (x:Operand) (ho:o.op= .load 3 x) (p:Addr) (v:Value) (hx:a.eval x= .pointer (some p)) (hc:w.cell? p=some v) (h:K (a.put o.dst v) w):o.wp Tryz.prog a w K Q:=by
 unfold Oper.wp execOp;simp only [ho,hx];simp [go_sem,hc];exact h
theorem o_load4 (x:Operand) (ho:o.op= .load 4 x) (p:Addr) (v:Value) (hx:a.eval x= .pointer (some p)) (hc:w.cell? p=some v) (h:K (a.put o.dst v) w):o.wp Tryz.prog a w K Q:=by
 unfold Oper.wp execOp;simp only [ho,hx];simp [go_sem,hc];exact h
theorem o_fld23_0 (x:Operand) (ho:o.op= .fieldAddr 73 x 0) (b i:Nat) (hx:a.eval x= .pointer (some ⟨b,i,none⟩)) (h:K (a.put o.dst (.pointer (some ⟨b,i,none⟩))) w):o.wp Tryz.prog a w K Q:=by
 unfold Oper.wp execOp;simp only [ho,hx];simp [go_sem];exact h
theorem o_fld23_1 (x:Operand) (ho:o.op= .fieldAddr 73 x 1) (b i:Nat) (hx:a.eval x= .pointer (some ⟨b,i,none⟩)) (h:K (a.put o.dst (.pointer (some ⟨b,i+1,none⟩))) w):o.wp Tryz.prog a w K Q:=by
 unfold Oper.wp execOp;simp only [ho,hx];simp [go_sem];exact h
theorem o_fld23_2 (x:Operand) (ho:o.op= .fieldAddr 73 x 2) (b i:Nat) (hx:a.eval x= .pointer (some ⟨b,i,none⟩)) (h:K (a.put o.dst (.pointer (some ⟨b,i+2,none⟩))) w):o.wp Tryz.prog a w K Q:=by
 unfold Oper.wp execOp;simp only [ho,hx];simp [go_sem];exact h
@[reducible] def SX {α:Type} (X:List Nat) (w:World) (mk:α→List (Nat×Nat×List Value)) (S0 S1:α) (k:Nat) (d:Nat→Bool) (_:Nat→Value) (W:World):Prop:=
 ∃S,Mm X w W (mk S)∧(d k=false→S=S0)∧(d k=true→S=S1)
theorem SX.loc {α:Type} {X:List Nat} {w:World} {mk:α→List (Nat×Nat×List Value)} {S0 S1:α} {k:Nat} :∀d d' vs vs' W,(∀i∈ [k],d i=d' i∧vs i=vs' i)→SX X w mk S0 S1 k d vs W→SX X w mk S0 S1 k d' vs' W:=by
 intro d d' vs vs' W H h;have e0:=(H k (by simp)).1;unfold SX at h⊢;rw [← e0];exact h
theorem ZT {T:Nat} (hs:(Tryz.prog.info? T).map (·.size)=some 1) (hgd:op.guard=none) (x y:Operand) (ho:op.op= .store T x y) (hd:op.dst=none) (b off:Nat) (v:Value) (h1:One v) (hx:a.eval x= .pointer (some ⟨b,off,none⟩)) (hy:a.eval y=v) {TT:Nat} {us:List Value} (hB:Blk w b TT us) (hl:off<us.length)
  (h:∀W,Blk W b TT (us.set off v)→Kept [b] w W→wpList Tryz.prog ops Q rest a W):wpList Tryz.prog ops Q (op::rest) a w:=
 wpList_plain hgd fun K hK=>by
  have hst:=storeVar1 hs hB hl v h1.1 h1.2;unfold Oper.wp execOp;simp only [ho,hx,hy,Instr.storeAt,Instr.sureAddr,Sem.run_bind,Sem.run_pure,Result.andThen_ok,hst];refine hK _ _ ?_;rw [hd];exact h _ (hB.set v) ((Kept.refl _ _).setCell (by simp) v)
end
end Go.Proofs.YtcfflbafclmheaaGreatDoor.Le
