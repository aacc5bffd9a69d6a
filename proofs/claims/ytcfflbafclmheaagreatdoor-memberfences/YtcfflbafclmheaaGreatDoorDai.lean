/-
  Texts of the walks of member, shortened.
-/
import Derived.Test.YtcfflbafclmheaaGreatDoorDaf
import Derived.Test.YtcfflbafclmheaaGreatDoorDag
import Derived.Test.YtcfflbafclmheaaGreatDoorDah
set_option maxRecDepth 100000
set_option maxHeartbeats 100000000
set_option linter.unusedSimpArgs false
namespace Go.Proofs.YtcfflbafclmheaaGreatDoor
open Go.RowKit
section
variable {ops:Array Oper} {rest:List Oper} {op o:Oper} {a:Act} {w:World} {K:Act→World→Prop} {Q:Exit→Act→World→Prop}
theorem o_load39 (x:Operand) (ho:o.op= .load 39 x) (p:Addr) (v:Value) (hx:a.eval x= .pointer (some p)) (hc:w.cell? p=some v) (h:K (a.put o.dst v) w):o.wp Tryz.prog a w K Q:=by
 unfold Oper.wp execOp;simp only [ho,hx];simp [go_sem,hc];exact h
theorem size39:(Tryz.prog.info? 39).map (·.size)=some 1:=by kernel_rfl
theorem load39 {w:World} {b:Nat} {x:Int} (h:Blk w b 39 [.int .i64 x]):(loadVar 39 ⟨b,0,none⟩).run Tryz.prog w= .ok (.int .i64 x) w:=by
 have hc:=Qb h 0 _ rfl;simp [go_sem,hc]
theorem zero39 (w:World):(Instr.alloc 39 true (.tuple #[])).run Tryz.prog w= .ok (P0 w.heap.size) (w.alloc (.cells [Value.int .i64 0].toArray 39)):=by kernel_rfl
theorem o_st39 (x y:Operand) (ho:o.op= .store 39 x y) (hd:o.dst=none) (b:Nat) (n m:Int) (hx:a.eval x=P0 b) (hy:a.eval y= .int .i64 n) (hB:Blk w b 39 [.int .i64 m])
  (h:K a (w.setCell ⟨b,0,none⟩ (.int .i64 n))):o.wp Tryz.prog a w K Q:=by
 have hst:=Vi.storeVar1 (off:=0) size39 hB (by simp) (.int .i64 n) rfl rfl;unfold Oper.wp execOp;simp only [ho,hx,hy,Instr.storeAt,Instr.sureAddr,Sem.run_bind,Sem.run_pure,Result.andThen_ok,hst];show K (a.put o.dst undef) _;rw [hd];exact h
theorem wpCall0P (hgd:op.guard=none) (f:FuncId) (t:Nat) (ho:op.op= .call { callee:= .value (.tmp t),args:= #[],argTypes:= #[] }) (cs:Array Value) (hf:a.eval (.tmp t)=fnV f cs) (hcf:Ent f)
  (h:Calls Tryz.prog f cs w fun e w'=>(∃v,e= .returned v∧wpList Tryz.prog ops Q rest (a.put op.dst v) w')∨(∃ps,e= .panicked ps∧Q (.panic ps) a w')):wpList Tryz.prog ops Q (op::rest) a w:=
 wpList_plain hgd fun K hK=>by
  unfold Oper.wp execOp;have h2:=hcf cs w;simp only [ho,resolve,hf];simp [invoke,go_sem,h2];refine h.mono ?_;rintro e w' (⟨v,rfl,hk⟩ | ⟨ps,rfl,hq⟩)
  · exact hK _ _ hk
  · exact hq
end
@[reducible] def SC (w:World) (b1 T:Nat) (z:List Value) (b2:Nat) (x:Int) (_:Nat→Bool) (_:Nat→Value) (W:World):Prop:=Blk W b1 T z∧Blk W b2 39 [.int .i64 x]∧Kept [] w W
theorem SC.loc {w:World} {b1 T:Nat} {z:List Value} {b2:Nat} {x:Int} :∀d d' vs vs' W,(∀i∈([]:List Nat),d i=d' i∧vs i=vs' i)→SC w b1 T z b2 x d vs W→SC w b1 T z b2 x d' vs' W:=fun _ _ _ _ _ _ h=>h
theorem _root_.Go.Proofs.YtcfflbafclmheaaGreatDoor.Kept.upNew {w V V':World} {Y:List Nat} (h:Kept [] w V) (k:Kept Y V V') (hY:∀y∈Y,w.heap.size≤y):Kept [] w V':=
 ⟨k.os.trans h.os,k.tape.trans h.tape,k.output.trans h.output,Nat.le_trans h.size k.size,fun i hi hx=>(k.block i (Nat.lt_of_lt_of_le hi h.size) (fun e=>by have:=hY i e;omega)).trans (h.block i hi hx)⟩
theorem _root_.Go.Proofs.YtcfflbafclmheaaGreatDoor.Kept.setNew {w V:World} (h:Kept [] w V) {b o:Nat} {vs:List Value} (hb:w.heap.size≤b):Kept [] w (V.setCells b o vs):=h.upNew ((Kept.refl [b] _).setCells _ _ (by simp)) (by simpa using hb)
theorem _root_.Go.Proofs.YtcfflbafclmheaaGreatDoor.Kept.setNew1 {w V:World} (h:Kept [] w V) {b o:Nat} {v:Value} (hb:w.heap.size≤b):Kept [] w (V.setCell ⟨b,o,none⟩ v):=h.upNew ((Kept.refl [b] _).setCell (by simp) _) (by simpa using hb)
def tuC (t:Vi.Vw×Bool):List Value:=Vi.vwC t.1++ [.bool t.2]
theorem tuC_one (t:Vi.Vw×Bool):∀v∈tuC t,v.oneCell'=true:=by
 intro v hv;rcases List.mem_append.1 hv with h | h
 · exact Vi.Ql _ v h
 · simp at h;subst h;rfl
theorem tuC_len {t:Vi.Vw×Bool} (h:t.1.ms.length=8):(tuC t).length=20:=by simp [tuC,Vi.Qk h]
theorem row171:Row 171 20:=⟨_,Tryz.underlying171,rfl,by kernel_rfl⟩
theorem zero171 (w:World):(Instr.alloc 171 true (.tuple #[])).run Tryz.prog w= .ok (P0 w.heap.size) (w.alloc (.cells (tuC (Vi.zv,false)).toArray 171)):=by kernel_rfl
theorem res131 (w:World) (b1 b2:Nat) (z:List Value) (x:Int) (tmps:Array Value) (h4:tmps[4]?.getD undef=P0 b1) (h5:tmps[5]?.getD undef=P0 b2) (hl:z.length=20) (B1:Blk w b1 171 z) (B2:Blk w b2 39 [.int .i64 x]):(results Tryz.f131 tmps).run Tryz.prog w= .ok (.tuple #[Qd z,.int .i64 x]) w:=by
 have h1:=Zq row171 hl B1;have h2:=load39 B2;simp [results,Tryz.results131,h4,h5,h1,h2,asAddr]
theorem answer131_no (b n c:Nat) (f:FuncId) (cs:Array Value) (w:World) (L:List (Value×Int)) (hn:L.length=n) (hn9:n≤100) (hB:Rg w b (L.map Prod.fst)) (hL:∀p∈L,ZP w p.1 p.2) (x:Int) (hx:first0 (L.map Prod.snd)=x) (h0:x≠0):
   Calls Tryz.prog 131 #[.slice (some ⟨b,0,none⟩) n c,fnV f cs] w fun e w'=>e= .returned (.tuple #[Qd (tuC (Vi.zv,false)),.int .i64 x])∧Kept [] w w':=by
 have hd:(x == 0)=false:=by simpa using h0
 have hm:=hmf;have P67:∀W,Kept [] w W→Hid (Calls Tryz.prog 67 #[.slice (some ⟨b,0,none⟩) n c] W fun e W'=>e= .returned (.int .i64 x)∧Kept [] W W'):=fun W hW=>hide (by
   have:=told_pure b n c W L hn hn9 (hB.kept hW (by simp)) (fun p hp=>(hL p hp).mono hW);rw [hx] at this;exact this)
 clear hB hL hx;go_enter_defers Tryz.func131,Tryz.ntmps131
 go_wp2_with (first |(refine Qv (tuC (Vi.zv,false)) zero171 4 rfl rfl rfl ?_;intro W1 b1 e1 B1 K1;have n1:w.heap.size≤b1:=(by omega);have l1:=B1.lt;have HB1:=hide B1;have HK:=hide K1;clear e1 B1 K1;refine Stp.go ?_))
 constructor
 go_wp2_with (first |(refine Qv [.int .i64 0] zero39 5 rfl rfl rfl ?_;intro W2 b2 e2 B2 K2;have hne:b2≠b1:=(by omega);have n2:w.heap.size≤b2:=(by have:=(Qa HK).size;omega);replace HB1:=hide ((Qa HB1).kept K2 (by simp));have HB2:=hide B2;replace HK:=hide ((Qa HK).trans K2);clear e2 B2 K2 l1;refine Stp.go ?_))
 constructor
 go_wp2_with (first |(go_at_call 67;refine(Qa (P67 _ (Qa HK))).mono ?_;rintro e W3 ⟨rfl,K3⟩;replace HB1:=hide ((Qa HB1).kept K3 (by simp));replace HB2:=hide ((Qa HB2).kept K3 (by simp));replace HK:=hide ((Qa HK).trans K3);clear K3 P67;refine Stp.go ?_))
 constructor
 go_wp2_with (first |(refine Le.ZT size39 rfl (.tmp 5) (.tmp 8) rfl rfl b2 0 (.int .i64 x) ⟨rfl,rfl⟩ rfl rfl (Qa HB2) (by simp) ?_;intro W4 B4 K4;replace HB1:=hide ((Qa HB1).kept K4 (by simpa using hne.symm));replace HB2:Hid (Blk W4 b2 39 [.int .i64 x]):=hide B4;replace HK:=hide ((Qa HK).upNew K4 (by simpa using n2));clear B4 K4;refine Stp.go ?_))
 constructor
 have hc2:=Qb (Qa HB2) 0 _ rfl;go_wp2_with fail
 refine wp_region_any mixed (QL 4 rfl (by kernel_rfl) [some (Qd (tuC (Vi.zv,false))),some (.int .i64 x),none,none] rfl (by kernel_rfl) (fun l vs W=>(SC w b1 171 (tuC (Vi.zv,false)) b2 x) (fun i=>l.getD i false) vs W) (⟨(Qa HB1).drew,(Qa HB2).drew,(Qa HK).drew⟩) ?_ ?_)
 · intro ix o' hi ho a' w2 l vs hls hlf hJ hout hin hdep hnot
   match ix,ho with
   | 0,ho=>
    obtain rfl:=Oj9 ho;have e0:=hout 4 (by kernel_rfl);replace e0:a'.eval (.tmp 4)=_:=e0.trans rfl;exact Qw row171 (.tmp 4) rfl b1 0 e0 (tuC (Vi.zv,false)) rfl hJ.1.range ⟨_,rfl,Qe rfl,Le.Qj [] SC.loc (by omega) (by decide) hJ⟩
   | 1,ho=>
    obtain rfl:=Oj9 ho;have e0:=hout 5 (by kernel_rfl);replace e0:a'.eval (.tmp 5)=_:=e0.trans rfl;exact o_load39 (.tmp 5) rfl _ _ e0 (Qb hJ.2.1 0 _ rfl) ⟨_,rfl,Qe rfl,Le.Qj [] SC.loc (by omega) (by decide) hJ⟩
   | 2,ho=>
    obtain rfl:=Oj9 ho;have e0:=hout 4 (by kernel_rfl);replace e0:a'.eval (.tmp 4)=_:=e0.trans rfl;have e1:a'.eval (.tmp 11)=Qd (tuC (Vi.zv,false)):=by have h9:=hin 0 11 (by kernel_rfl) (by kernel_rfl);exact h9.1.trans (Qc _ h9.2 rfl)
    exact Zh row171 (.tmp 4) (.tmp 11) rfl rfl b1 0 (tuC (Vi.zv,false)) e0 e1 rfl (tuC_one _) (hJ.1.there (by have hz:(tuC (Vi.zv,false)).length=20:=rfl;omega)) ⟨undef,rfl,QA rfl,Le.QJ (by omega) ⟨hJ.1.put rfl,hJ.2.1.kept ((Kept.refl [b1] _).setCells _ _ (by simp)) (by simpa using hne),(hJ.2.2.setNew n1)⟩⟩
   | 3,ho=>
    obtain rfl:=Oj9 ho;have e0:=hout 5 (by kernel_rfl);replace e0:a'.eval (.tmp 5)=_:=e0.trans rfl;have e1:a'.eval (.tmp 12)= .int .i64 x:=by have h9:=hin 1 12 (by kernel_rfl) (by kernel_rfl);exact h9.1.trans (Qc _ h9.2 rfl)
    exact o_st39 (.tmp 5) (.tmp 12) rfl rfl b2 x x e0 e1 hJ.2.1 ⟨undef,rfl,QA rfl,Le.QJ (by omega) ⟨hJ.1.kept ((Kept.refl [b2] _).setCell (by simp) _) (by simpa using hne.symm),hJ.2.1.set _,(hJ.2.2.setNew1 n2)⟩⟩
 intro l_ vs4 V4 hl hJ htold;have t0:vs4 0=Qd (tuC (Vi.zv,false)):=Qc _ (htold 0 (by decide)) rfl;have t1:vs4 1= .int .i64 x:=Qc _ (htold 1 (by decide)) rfl;rw [show (List.range 4).map vs4= [vs4 0,vs4 1,vs4 2,vs4 3] from rfl];simp only [t0,t1,Qz,Act.put,List.setIfInBounds_toArray,List.set_cons_succ,List.set_cons_zero];clear t0 t1 htold;have HJ:=hide hJ;clear hJ hl HB1 HB2 HK hc2;go_wp2_with fail
 refine leaves_cons (f:=152) (args:= #[P0 b2]) (by simp) (by simp [go_sem]) ?_;refine(catch152_idle ⟨b2,0,none⟩ _).mono ?_;rintro e u' w'' ⟨rfl,rfl,rfl⟩;obtain⟨J1,J2,J3⟩:=Qa HJ;exact⟨_,res131 _ b1 b2 _ x _ rfl rfl rfl J1 J2,rfl,J3⟩
theorem answer131_yes (b n c:Nat) (f:FuncId) (cs:Array Value) (w:World) (L:List (Value×Int)) (hn:L.length=n) (hn9:n≤100) (hB:Rg w b (L.map Prod.fst)) (hL:∀p∈L,ZP w p.1 p.2) (hx:first0 (L.map Prod.snd)=0) (Y:List Nat) (hY:∀y∈Y,y<w.heap.size) (R:List Value→Int→World→Prop) (hR:∀z x V V' X,(∀y∈X,w.heap.size≤y)→R z x V→Kept X V V'→R z x V') (hent:Ent f)
   (hdo:∀W,Kept [] w W→Calls Tryz.prog f cs W fun e W'=>(∃z,e= .returned (Qd z)∧z.length=20∧(∀v∈z,v.oneCell'=true)∧Kept Y W W'∧R z 0 W')∨(∃x,e= .panicked [givP x]∧Kept Y W W'∧R (tuC (Vi.zv,false)) x W')):
   Calls Tryz.prog 131 #[.slice (some ⟨b,0,none⟩) n c,fnV f cs] w fun e w'=>∃z x,e= .returned (.tuple #[Qd z,.int .i64 x])∧z.length=20∧R z x w':=by
 have HDO:=hide hdo;have HR:=hide hR;have HE:=hide hent;have HY:=hide hY;clear hdo hR hent hY;have hm:=hmf;have P67:∀W,Kept [] w W→Hid (Calls Tryz.prog 67 #[.slice (some ⟨b,0,none⟩) n c] W fun e W'=>e= .returned (.int .i64 0)∧Kept [] W W'):=fun W hW=>hide (by
   have:=told_pure b n c W L hn hn9 (hB.kept hW (by simp)) (fun p hp=>(hL p hp).mono hW);rw [hx] at this;exact this)
 clear hB hL hx;go_enter_defers Tryz.func131,Tryz.ntmps131
 go_wp2_with (first |(refine Qv (tuC (Vi.zv,false)) zero171 4 rfl rfl rfl ?_;intro W1 b1 e1 B1 K1;have n1:w.heap.size≤b1:=(by omega);have l1:=B1.lt;have HB1:=hide B1;have HK:=hide K1;clear e1 B1 K1;refine Stp.go ?_))
 constructor
 go_wp2_with (first |(refine Qv [.int .i64 0] zero39 5 rfl rfl rfl ?_;intro W2 b2 e2 B2 K2;have hne:b2≠b1:=(by omega);have n2:w.heap.size≤b2:=(by have:=(Qa HK).size;omega);replace HB1:=hide ((Qa HB1).kept K2 (by simp));have HB2:=hide B2;replace HK:=hide ((Qa HK).trans K2);clear e2 B2 K2 l1;refine Stp.go ?_))
 constructor
 go_wp2_with (first |(go_at_call 67;refine(Qa (P67 _ (Qa HK))).mono ?_;rintro e W3 ⟨rfl,K3⟩;replace HB1:=hide ((Qa HB1).kept K3 (by simp));replace HB2:=hide ((Qa HB2).kept K3 (by simp));replace HK:=hide ((Qa HK).trans K3);clear K3 P67;refine Stp.go ?_))
 constructor
 go_wp2_with (first |(refine Le.ZT size39 rfl (.tmp 5) (.tmp 8) rfl rfl b2 0 (.int .i64 0) ⟨rfl,rfl⟩ rfl rfl (Qa HB2) (by simp) ?_;intro W4 B4 K4;replace HB1:=hide ((Qa HB1).kept K4 (by simpa using hne.symm));replace HB2:Hid (Blk W4 b2 39 [.int .i64 0]):=hide B4;replace HK:=hide ((Qa HK).upNew K4 (by simpa using n2));clear B4 K4;refine Stp.go ?_))
 constructor
 have hc2:=Qb (Qa HB2) 0 _ rfl;have y1:b1∉Y:=fun h=>by have:=Qa HY b1 h;omega
 have y2:b2∉Y:=fun h=>by have:=Qa HY b2 h;omega
 go_wp2_with (first |(refine wpCall0P rfl f 13 rfl cs rfl (Qa HE) ((Qa HDO _ (Qa HK)).mono ?_);refine Stp.go ?_))
 constructor
 rintro e W5 (⟨z,rfl,hz,ho,K5,hr⟩ | ⟨x,rfl,K5,hr⟩)
 · refine .inl ⟨_,rfl,?_⟩;replace HB1:=hide ((Qa HB1).kept K5 y1);replace HB2:=hide ((Qa HB2).kept K5 y2);have HRz:=hide hr;have HO:=hide ho;have hl1:(tuC (Vi.zv,false)).length=20:=rfl;clear K5 hr ho HDO HK hc2;go_wp2_with (first |(refine wpStoreA row171 rfl (.tmp 4) (.tmp 14) rfl b1 0 z rfl rfl hz (Qa HO) ((Qa HB1).there (by omega)) ?_;replace HB1:=hide ((Qa HB1).put (hl1.trans hz.symm));have k6:Kept [b1] W5 (W5.setCells b1 0 z):=(Kept.refl [b1] _).setCells _ _ (by simp);replace HB2:=hide ((Qa HB2).kept k6 (by simpa using hne));replace HRz:=hide (Qa HR _ _ _ _ [b1] (by simpa using n1) (Qa HRz) k6);clear k6;refine Stp.go ?_))
   constructor
   go_wp2_with (first |(refine Le.ZT size39 rfl (.tmp 5) (.const (.int .i64 0)) rfl rfl b2 0 (.int .i64 0) ⟨rfl,rfl⟩ rfl rfl (Qa HB2) (by simp) ?_;intro W7 B7 K7;replace HB1:=hide ((Qa HB1).kept K7 (by simpa using hne.symm));replace HB2:Hid (Blk W7 b2 39 [.int .i64 0]):=hide B7;replace HRz:=hide (Qa HR _ _ _ _ [b2] (by simpa using n2) (Qa HRz) K7);clear B7 K7;refine Stp.go ?_))
   constructor
   go_wp2_with fail
   refine leaves_cons (f:=152) (args:= #[P0 b2]) (by simp) (by simp [go_sem]) ?_;refine(catch152_idle ⟨b2,0,none⟩ _).mono ?_;rintro e u' w'' ⟨rfl,rfl,rfl⟩;exact⟨_,res131 _ b1 b2 z 0 _ rfl rfl hz (Qa HB1) (Qa HB2),z,0,rfl,hz,Qa HRz⟩
 · refine .inr ⟨_,rfl,?_⟩;have B1:=(Qa HB1).kept K5 y1;have B2:=(Qa HB2).kept K5 y2;refine leaves_cons (f:=152) (args:= #[P0 b2]) (by simp) (by simp [go_sem]) ?_;refine(catch152_panicking ⟨b2,0,none⟩ x 0 [] _ (Qb B2 0 _ rfl) (B2.frozen 0)).mono ?_;rintro e u' w'' ⟨rfl,rfl,rfl⟩;have k6:Kept [b2] W5 (W5.setCell ⟨b2,0,none⟩ (.int .i64 x)):=(Kept.refl [b2] _).setCell (by simp) _;exact⟨_,res131 _ b1 b2 _ x _ rfl rfl rfl (B1.kept k6 (by simpa using hne.symm)) (B2.set _),_,x,rfl,rfl,Qa HR _ _ _ _ [b2] (by simpa using n2) hr k6⟩
theorem res63 (w:World) (b1 b2:Nat) (z:List Value) (x:Int) (tmps:Array Value) (h4:tmps[4]?.getD undef=P0 b1) (h5:tmps[5]?.getD undef=P0 b2) (hl:z.length=3) (B1:Blk w b1 73 z) (B2:Blk w b2 39 [.int .i64 x]):(results Tryz.f63 tmps).run Tryz.prog w= .ok (.tuple #[Qd z,.int .i64 x]) w:=by
 have h1:=Zq Le.QC hl B1;have h2:=load39 B2;simp [results,Tryz.results63,h4,h5,h1,h2,asAddr]
theorem answer63_no (b n c:Nat) (f:FuncId) (cs:Array Value) (w:World) (L:List (Value×Int)) (hn:L.length=n) (hn9:n≤100) (hB:Rg w b (L.map Prod.fst)) (hL:∀p∈L,ZP w p.1 p.2) (x:Int) (hx:first0 (L.map Prod.snd)=x) (h0:x≠0):
   Calls Tryz.prog 63 #[.slice (some ⟨b,0,none⟩) n c,fnV f cs] w fun e w'=>e= .returned (.tuple #[Qd (Le.le0.C),.int .i64 x])∧Kept [] w w':=by
 have hd:(x == 0)=false:=by simpa using h0
 have hm:=hmf;have P67:∀W,Kept [] w W→Hid (Calls Tryz.prog 67 #[.slice (some ⟨b,0,none⟩) n c] W fun e W'=>e= .returned (.int .i64 x)∧Kept [] W W'):=fun W hW=>hide (by
   have:=told_pure b n c W L hn hn9 (hB.kept hW (by simp)) (fun p hp=>(hL p hp).mono hW);rw [hx] at this;exact this)
 clear hB hL hx;go_enter_defers Tryz.func63,Tryz.ntmps63
 go_wp2_with (first |(refine Qv (Le.le0.C) Le.QT 4 rfl rfl rfl ?_;intro W1 b1 e1 B1 K1;have n1:w.heap.size≤b1:=(by omega);have l1:=B1.lt;have HB1:=hide B1;have HK:=hide K1;clear e1 B1 K1;refine Stp.go ?_))
 constructor
 go_wp2_with (first |(refine Qv [.int .i64 0] zero39 5 rfl rfl rfl ?_;intro W2 b2 e2 B2 K2;have hne:b2≠b1:=(by omega);have n2:w.heap.size≤b2:=(by have:=(Qa HK).size;omega);replace HB1:=hide ((Qa HB1).kept K2 (by simp));have HB2:=hide B2;replace HK:=hide ((Qa HK).trans K2);clear e2 B2 K2 l1;refine Stp.go ?_))
 constructor
 go_wp2_with (first |(go_at_call 67;refine(Qa (P67 _ (Qa HK))).mono ?_;rintro e W3 ⟨rfl,K3⟩;replace HB1:=hide ((Qa HB1).kept K3 (by simp));replace HB2:=hide ((Qa HB2).kept K3 (by simp));replace HK:=hide ((Qa HK).trans K3);clear K3 P67;refine Stp.go ?_))
 constructor
 go_wp2_with (first |(refine Le.ZT size39 rfl (.tmp 5) (.tmp 8) rfl rfl b2 0 (.int .i64 x) ⟨rfl,rfl⟩ rfl rfl (Qa HB2) (by simp) ?_;intro W4 B4 K4;replace HB1:=hide ((Qa HB1).kept K4 (by simpa using hne.symm));replace HB2:Hid (Blk W4 b2 39 [.int .i64 x]):=hide B4;replace HK:=hide ((Qa HK).upNew K4 (by simpa using n2));clear B4 K4;refine Stp.go ?_))
 constructor
 have hc2:=Qb (Qa HB2) 0 _ rfl;go_wp2_with fail
 refine wp_region_any mixed (QL 4 rfl (by kernel_rfl) [some (Qd (Le.le0.C)),some (.int .i64 x),none,none] rfl (by kernel_rfl) (fun l vs W=>(SC w b1 73 (Le.le0.C) b2 x) (fun i=>l.getD i false) vs W) (⟨(Qa HB1).drew,(Qa HB2).drew,(Qa HK).drew⟩) ?_ ?_)
 · intro ix o' hi ho a' w2 l vs hls hlf hJ hout hin hdep hnot
   match ix,ho with
   | 0,ho=>
    obtain rfl:=Oj9 ho;have e0:=hout 4 (by kernel_rfl);replace e0:a'.eval (.tmp 4)=_:=e0.trans rfl;exact Qw Le.QC (.tmp 4) rfl b1 0 e0 (Le.le0.C) rfl hJ.1.range ⟨_,rfl,Qe rfl,Le.Qj [] SC.loc (by omega) (by decide) hJ⟩
   | 1,ho=>
    obtain rfl:=Oj9 ho;have e0:=hout 5 (by kernel_rfl);replace e0:a'.eval (.tmp 5)=_:=e0.trans rfl;exact o_load39 (.tmp 5) rfl _ _ e0 (Qb hJ.2.1 0 _ rfl) ⟨_,rfl,Qe rfl,Le.Qj [] SC.loc (by omega) (by decide) hJ⟩
   | 2,ho=>
    obtain rfl:=Oj9 ho;have e0:=hout 4 (by kernel_rfl);replace e0:a'.eval (.tmp 4)=_:=e0.trans rfl;have e1:a'.eval (.tmp 11)=Qd (Le.le0.C):=by have h9:=hin 0 11 (by kernel_rfl) (by kernel_rfl);exact h9.1.trans (Qc _ h9.2 rfl)
    exact Zh Le.QC (.tmp 4) (.tmp 11) rfl rfl b1 0 (Le.le0.C) e0 e1 rfl (Le.QV _) (hJ.1.there (by have hz:(Le.le0.C).length=3:=rfl;omega)) ⟨undef,rfl,QA rfl,Le.QJ (by omega) ⟨hJ.1.put rfl,hJ.2.1.kept ((Kept.refl [b1] _).setCells _ _ (by simp)) (by simpa using hne),(hJ.2.2.setNew n1)⟩⟩
   | 3,ho=>
    obtain rfl:=Oj9 ho;have e0:=hout 5 (by kernel_rfl);replace e0:a'.eval (.tmp 5)=_:=e0.trans rfl;have e1:a'.eval (.tmp 12)= .int .i64 x:=by have h9:=hin 1 12 (by kernel_rfl) (by kernel_rfl);exact h9.1.trans (Qc _ h9.2 rfl)
    exact o_st39 (.tmp 5) (.tmp 12) rfl rfl b2 x x e0 e1 hJ.2.1 ⟨undef,rfl,QA rfl,Le.QJ (by omega) ⟨hJ.1.kept ((Kept.refl [b2] _).setCell (by simp) _) (by simpa using hne.symm),hJ.2.1.set _,(hJ.2.2.setNew1 n2)⟩⟩
 intro l_ vs4 V4 hl hJ htold;have t0:vs4 0=Qd (Le.le0.C):=Qc _ (htold 0 (by decide)) rfl;have t1:vs4 1= .int .i64 x:=Qc _ (htold 1 (by decide)) rfl;rw [show (List.range 4).map vs4= [vs4 0,vs4 1,vs4 2,vs4 3] from rfl];simp only [t0,t1,Qz,Act.put,List.setIfInBounds_toArray,List.set_cons_succ,List.set_cons_zero];clear t0 t1 htold;have HJ:=hide hJ;clear hJ hl HB1 HB2 HK hc2;go_wp2_with fail
 refine leaves_cons (f:=118) (args:= #[P0 b2]) (by simp) (by simp [go_sem]) ?_;refine(catch118_idle ⟨b2,0,none⟩ _).mono ?_;rintro e u' w'' ⟨rfl,rfl,rfl⟩;obtain⟨J1,J2,J3⟩:=Qa HJ;exact⟨_,res63 _ b1 b2 _ x _ rfl rfl rfl J1 J2,rfl,J3⟩
theorem answer63_yes (b n c:Nat) (f:FuncId) (cs:Array Value) (w:World) (L:List (Value×Int)) (hn:L.length=n) (hn9:n≤100) (hB:Rg w b (L.map Prod.fst)) (hL:∀p∈L,ZP w p.1 p.2) (hx:first0 (L.map Prod.snd)=0) (Y:List Nat) (hY:∀y∈Y,y<w.heap.size) (R:List Value→Int→World→Prop) (hR:∀z x V V' X,(∀y∈X,w.heap.size≤y)→R z x V→Kept X V V'→R z x V') (hent:Ent f)
   (hdo:∀W,Kept [] w W→Calls Tryz.prog f cs W fun e W'=>(∃z,e= .returned (Qd z)∧z.length=3∧(∀v∈z,v.oneCell'=true)∧Kept Y W W'∧R z 0 W')∨(∃x,e= .panicked [givP x]∧Kept Y W W'∧R (Le.le0.C) x W')):
   Calls Tryz.prog 63 #[.slice (some ⟨b,0,none⟩) n c,fnV f cs] w fun e w'=>∃z x,e= .returned (.tuple #[Qd z,.int .i64 x])∧z.length=3∧R z x w':=by
 have HDO:=hide hdo;have HR:=hide hR;have HE:=hide hent;have HY:=hide hY;clear hdo hR hent hY;have hm:=hmf;have P67:∀W,Kept [] w W→Hid (Calls Tryz.prog 67 #[.slice (some ⟨b,0,none⟩) n c] W fun e W'=>e= .returned (.int .i64 0)∧Kept [] W W'):=fun W hW=>hide (by
   have:=told_pure b n c W L hn hn9 (hB.kept hW (by simp)) (fun p hp=>(hL p hp).mono hW);rw [hx] at this;exact this)
 clear hB hL hx;go_enter_defers Tryz.func63,Tryz.ntmps63
 go_wp2_with (first |(refine Qv (Le.le0.C) Le.QT 4 rfl rfl rfl ?_;intro W1 b1 e1 B1 K1;have n1:w.heap.size≤b1:=(by omega);have l1:=B1.lt;have HB1:=hide B1;have HK:=hide K1;clear e1 B1 K1;refine Stp.go ?_))
 constructor
 go_wp2_with (first |(refine Qv [.int .i64 0] zero39 5 rfl rfl rfl ?_;intro W2 b2 e2 B2 K2;have hne:b2≠b1:=(by omega);have n2:w.heap.size≤b2:=(by have:=(Qa HK).size;omega);replace HB1:=hide ((Qa HB1).kept K2 (by simp));have HB2:=hide B2;replace HK:=hide ((Qa HK).trans K2);clear e2 B2 K2 l1;refine Stp.go ?_))
 constructor
 go_wp2_with (first |(go_at_call 67;refine(Qa (P67 _ (Qa HK))).mono ?_;rintro e W3 ⟨rfl,K3⟩;replace HB1:=hide ((Qa HB1).kept K3 (by simp));replace HB2:=hide ((Qa HB2).kept K3 (by simp));replace HK:=hide ((Qa HK).trans K3);clear K3 P67;refine Stp.go ?_))
 constructor
 go_wp2_with (first |(refine Le.ZT size39 rfl (.tmp 5) (.tmp 8) rfl rfl b2 0 (.int .i64 0) ⟨rfl,rfl⟩ rfl rfl (Qa HB2) (by simp) ?_;intro W4 B4 K4;replace HB1:=hide ((Qa HB1).kept K4 (by simpa using hne.symm));replace HB2:Hid (Blk W4 b2 39 [.int .i64 0]):=hide B4;replace HK:=hide ((Qa HK).upNew K4 (by simpa using n2));clear B4 K4;refine Stp.go ?_))
 constructor
 have hc2:=Qb (Qa HB2) 0 _ rfl;have y1:b1∉Y:=fun h=>by have:=Qa HY b1 h;omega
 have y2:b2∉Y:=fun h=>by have:=Qa HY b2 h;omega
 go_wp2_with (first |(refine wpCall0P rfl f 13 rfl cs rfl (Qa HE) ((Qa HDO _ (Qa HK)).mono ?_);refine Stp.go ?_))
 constructor
 rintro e W5 (⟨z,rfl,hz,ho,K5,hr⟩ | ⟨x,rfl,K5,hr⟩)
 · refine .inl ⟨_,rfl,?_⟩;replace HB1:=hide ((Qa HB1).kept K5 y1);replace HB2:=hide ((Qa HB2).kept K5 y2);have HRz:=hide hr;have HO:=hide ho;have hl1:(Le.le0.C).length=3:=rfl;clear K5 hr ho HDO HK hc2;go_wp2_with (first |(refine wpStoreA Le.QC rfl (.tmp 4) (.tmp 14) rfl b1 0 z rfl rfl hz (Qa HO) ((Qa HB1).there (by omega)) ?_;replace HB1:=hide ((Qa HB1).put (hl1.trans hz.symm));have k6:Kept [b1] W5 (W5.setCells b1 0 z):=(Kept.refl [b1] _).setCells _ _ (by simp);replace HB2:=hide ((Qa HB2).kept k6 (by simpa using hne));replace HRz:=hide (Qa HR _ _ _ _ [b1] (by simpa using n1) (Qa HRz) k6);clear k6;refine Stp.go ?_))
   constructor
   go_wp2_with (first |(refine Le.ZT size39 rfl (.tmp 5) (.const (.int .i64 0)) rfl rfl b2 0 (.int .i64 0) ⟨rfl,rfl⟩ rfl rfl (Qa HB2) (by simp) ?_;intro W7 B7 K7;replace HB1:=hide ((Qa HB1).kept K7 (by simpa using hne.symm));replace HB2:Hid (Blk W7 b2 39 [.int .i64 0]):=hide B7;replace HRz:=hide (Qa HR _ _ _ _ [b2] (by simpa using n2) (Qa HRz) K7);clear B7 K7;refine Stp.go ?_))
   constructor
   go_wp2_with fail
   refine leaves_cons (f:=118) (args:= #[P0 b2]) (by simp) (by simp [go_sem]) ?_;refine(catch118_idle ⟨b2,0,none⟩ _).mono ?_;rintro e u' w'' ⟨rfl,rfl,rfl⟩;exact⟨_,res63 _ b1 b2 z 0 _ rfl rfl hz (Qa HB1) (Qa HB2),z,0,rfl,hz,Qa HRz⟩
 · refine .inr ⟨_,rfl,?_⟩;have B1:=(Qa HB1).kept K5 y1;have B2:=(Qa HB2).kept K5 y2;refine leaves_cons (f:=118) (args:= #[P0 b2]) (by simp) (by simp [go_sem]) ?_;refine(catch118_panicking ⟨b2,0,none⟩ x 0 [] _ (Qb B2 0 _ rfl) (B2.frozen 0)).mono ?_;rintro e u' w'' ⟨rfl,rfl,rfl⟩;have k6:Kept [b2] W5 (W5.setCell ⟨b2,0,none⟩ (.int .i64 x)):=(Kept.refl [b2] _).setCell (by simp) _;exact⟨_,res63 _ b1 b2 _ x _ rfl rfl rfl (B1.kept k6 (by simpa using hne.symm)) (B2.set _),_,x,rfl,rfl,Qa HR _ _ _ _ [b2] (by simpa using n2) hr k6⟩
theorem res43 (w:World) (b1 b2:Nat) (z:List Value) (x:Int) (tmps:Array Value) (h4:tmps[4]?.getD undef=P0 b1) (h5:tmps[5]?.getD undef=P0 b2) (hl:z.length=19) (B1:Blk w b1 29 z) (B2:Blk w b2 39 [.int .i64 x]):(results Tryz.f43 tmps).run Tryz.prog w= .ok (.tuple #[Qd z,.int .i64 x]) w:=by
 have h1:=Zq Vi.Qn hl B1;have h2:=load39 B2;simp [results,Tryz.results43,h4,h5,h1,h2,asAddr]
theorem answer43_no (b n c:Nat) (f:FuncId) (cs:Array Value) (w:World) (L:List (Value×Int)) (hn:L.length=n) (hn9:n≤100) (hB:Rg w b (L.map Prod.fst)) (hL:∀p∈L,ZP w p.1 p.2) (x:Int) (hx:first0 (L.map Prod.snd)=x) (h0:x≠0):
   Calls Tryz.prog 43 #[.slice (some ⟨b,0,none⟩) n c,fnV f cs] w fun e w'=>e= .returned (.tuple #[Qd (Vi.vwC Vi.zv),.int .i64 x])∧Kept [] w w':=by
 have hd:(x == 0)=false:=by simpa using h0
 have hm:=hmf;have P67:∀W,Kept [] w W→Hid (Calls Tryz.prog 67 #[.slice (some ⟨b,0,none⟩) n c] W fun e W'=>e= .returned (.int .i64 x)∧Kept [] W W'):=fun W hW=>hide (by
   have:=told_pure b n c W L hn hn9 (hB.kept hW (by simp)) (fun p hp=>(hL p hp).mono hW);rw [hx] at this;exact this)
 clear hB hL hx;go_enter_defers Tryz.func43,Tryz.ntmps43
 go_wp2_with (first |(refine Qv (Vi.vwC Vi.zv) Vi.QE 4 rfl rfl rfl ?_;intro W1 b1 e1 B1 K1;have n1:w.heap.size≤b1:=(by omega);have l1:=B1.lt;have HB1:=hide B1;have HK:=hide K1;clear e1 B1 K1;refine Stp.go ?_))
 constructor
 go_wp2_with (first |(refine Qv [.int .i64 0] zero39 5 rfl rfl rfl ?_;intro W2 b2 e2 B2 K2;have hne:b2≠b1:=(by omega);have n2:w.heap.size≤b2:=(by have:=(Qa HK).size;omega);replace HB1:=hide ((Qa HB1).kept K2 (by simp));have HB2:=hide B2;replace HK:=hide ((Qa HK).trans K2);clear e2 B2 K2 l1;refine Stp.go ?_))
 constructor
 go_wp2_with (first |(go_at_call 67;refine(Qa (P67 _ (Qa HK))).mono ?_;rintro e W3 ⟨rfl,K3⟩;replace HB1:=hide ((Qa HB1).kept K3 (by simp));replace HB2:=hide ((Qa HB2).kept K3 (by simp));replace HK:=hide ((Qa HK).trans K3);clear K3 P67;refine Stp.go ?_))
 constructor
 go_wp2_with (first |(refine Le.ZT size39 rfl (.tmp 5) (.tmp 8) rfl rfl b2 0 (.int .i64 x) ⟨rfl,rfl⟩ rfl rfl (Qa HB2) (by simp) ?_;intro W4 B4 K4;replace HB1:=hide ((Qa HB1).kept K4 (by simpa using hne.symm));replace HB2:Hid (Blk W4 b2 39 [.int .i64 x]):=hide B4;replace HK:=hide ((Qa HK).upNew K4 (by simpa using n2));clear B4 K4;refine Stp.go ?_))
 constructor
 have hc2:=Qb (Qa HB2) 0 _ rfl;go_wp2_with fail
 refine wp_region_any mixed (QL 4 rfl (by kernel_rfl) [some (Qd (Vi.vwC Vi.zv)),some (.int .i64 x),none,none] rfl (by kernel_rfl) (fun l vs W=>(SC w b1 29 (Vi.vwC Vi.zv) b2 x) (fun i=>l.getD i false) vs W) (⟨(Qa HB1).drew,(Qa HB2).drew,(Qa HK).drew⟩) ?_ ?_)
 · intro ix o' hi ho a' w2 l vs hls hlf hJ hout hin hdep hnot
   match ix,ho with
   | 0,ho=>
    obtain rfl:=Oj9 ho;have e0:=hout 4 (by kernel_rfl);replace e0:a'.eval (.tmp 4)=_:=e0.trans rfl;exact Qw Vi.Qn (.tmp 4) rfl b1 0 e0 (Vi.vwC Vi.zv) rfl hJ.1.range ⟨_,rfl,Qe rfl,Le.Qj [] SC.loc (by omega) (by decide) hJ⟩
   | 1,ho=>
    obtain rfl:=Oj9 ho;have e0:=hout 5 (by kernel_rfl);replace e0:a'.eval (.tmp 5)=_:=e0.trans rfl;exact o_load39 (.tmp 5) rfl _ _ e0 (Qb hJ.2.1 0 _ rfl) ⟨_,rfl,Qe rfl,Le.Qj [] SC.loc (by omega) (by decide) hJ⟩
   | 2,ho=>
    obtain rfl:=Oj9 ho;have e0:=hout 4 (by kernel_rfl);replace e0:a'.eval (.tmp 4)=_:=e0.trans rfl;have e1:a'.eval (.tmp 11)=Qd (Vi.vwC Vi.zv):=by have h9:=hin 0 11 (by kernel_rfl) (by kernel_rfl);exact h9.1.trans (Qc _ h9.2 rfl)
    exact Zh Vi.Qn (.tmp 4) (.tmp 11) rfl rfl b1 0 (Vi.vwC Vi.zv) e0 e1 rfl (Vi.Ql _) (hJ.1.there (by have hz:(Vi.vwC Vi.zv).length=19:=rfl;omega)) ⟨undef,rfl,QA rfl,Le.QJ (by omega) ⟨hJ.1.put rfl,hJ.2.1.kept ((Kept.refl [b1] _).setCells _ _ (by simp)) (by simpa using hne),(hJ.2.2.setNew n1)⟩⟩
   | 3,ho=>
    obtain rfl:=Oj9 ho;have e0:=hout 5 (by kernel_rfl);replace e0:a'.eval (.tmp 5)=_:=e0.trans rfl;have e1:a'.eval (.tmp 12)= .int .i64 x:=by have h9:=hin 1 12 (by kernel_rfl) (by kernel_rfl);exact h9.1.trans (Qc _ h9.2 rfl)
    exact o_st39 (.tmp 5) (.tmp 12) rfl rfl b2 x x e0 e1 hJ.2.1 ⟨undef,rfl,QA rfl,Le.QJ (by omega) ⟨hJ.1.kept ((Kept.refl [b2] _).setCell (by simp) _) (by simpa using hne.symm),hJ.2.1.set _,(hJ.2.2.setNew1 n2)⟩⟩
 intro l_ vs4 V4 hl hJ htold;have t0:vs4 0=Qd (Vi.vwC Vi.zv):=Qc _ (htold 0 (by decide)) rfl;have t1:vs4 1= .int .i64 x:=Qc _ (htold 1 (by decide)) rfl;rw [show (List.range 4).map vs4= [vs4 0,vs4 1,vs4 2,vs4 3] from rfl];simp only [t0,t1,Qz,Act.put,List.setIfInBounds_toArray,List.set_cons_succ,List.set_cons_zero];clear t0 t1 htold;have HJ:=hide hJ;clear hJ hl HB1 HB2 HK hc2;go_wp2_with fail
 refine leaves_cons (f:=103) (args:= #[P0 b2]) (by simp) (by simp [go_sem]) ?_;refine(catch103_idle ⟨b2,0,none⟩ _).mono ?_;rintro e u' w'' ⟨rfl,rfl,rfl⟩;obtain⟨J1,J2,J3⟩:=Qa HJ;exact⟨_,res43 _ b1 b2 _ x _ rfl rfl rfl J1 J2,rfl,J3⟩
theorem answer43_yes (b n c:Nat) (f:FuncId) (cs:Array Value) (w:World) (L:List (Value×Int)) (hn:L.length=n) (hn9:n≤100) (hB:Rg w b (L.map Prod.fst)) (hL:∀p∈L,ZP w p.1 p.2) (hx:first0 (L.map Prod.snd)=0) (Y:List Nat) (hY:∀y∈Y,y<w.heap.size) (R:List Value→Int→World→Prop) (hR:∀z x V V' X,(∀y∈X,w.heap.size≤y)→R z x V→Kept X V V'→R z x V') (hent:Ent f)
   (hdo:∀W,Kept [] w W→Calls Tryz.prog f cs W fun e W'=>(∃z,e= .returned (Qd z)∧z.length=19∧(∀v∈z,v.oneCell'=true)∧Kept Y W W'∧R z 0 W')∨(∃x,e= .panicked [givP x]∧Kept Y W W'∧R (Vi.vwC Vi.zv) x W')):
   Calls Tryz.prog 43 #[.slice (some ⟨b,0,none⟩) n c,fnV f cs] w fun e w'=>∃z x,e= .returned (.tuple #[Qd z,.int .i64 x])∧z.length=19∧R z x w':=by
 have HDO:=hide hdo;have HR:=hide hR;have HE:=hide hent;have HY:=hide hY;clear hdo hR hent hY;have hm:=hmf;have P67:∀W,Kept [] w W→Hid (Calls Tryz.prog 67 #[.slice (some ⟨b,0,none⟩) n c] W fun e W'=>e= .returned (.int .i64 0)∧Kept [] W W'):=fun W hW=>hide (by
   have:=told_pure b n c W L hn hn9 (hB.kept hW (by simp)) (fun p hp=>(hL p hp).mono hW);rw [hx] at this;exact this)
 clear hB hL hx;go_enter_defers Tryz.func43,Tryz.ntmps43
 go_wp2_with (first |(refine Qv (Vi.vwC Vi.zv) Vi.QE 4 rfl rfl rfl ?_;intro W1 b1 e1 B1 K1;have n1:w.heap.size≤b1:=(by omega);have l1:=B1.lt;have HB1:=hide B1;have HK:=hide K1;clear e1 B1 K1;refine Stp.go ?_))
 constructor
 go_wp2_with (first |(refine Qv [.int .i64 0] zero39 5 rfl rfl rfl ?_;intro W2 b2 e2 B2 K2;have hne:b2≠b1:=(by omega);have n2:w.heap.size≤b2:=(by have:=(Qa HK).size;omega);replace HB1:=hide ((Qa HB1).kept K2 (by simp));have HB2:=hide B2;replace HK:=hide ((Qa HK).trans K2);clear e2 B2 K2 l1;refine Stp.go ?_))
 constructor
 go_wp2_with (first |(go_at_call 67;refine(Qa (P67 _ (Qa HK))).mono ?_;rintro e W3 ⟨rfl,K3⟩;replace HB1:=hide ((Qa HB1).kept K3 (by simp));replace HB2:=hide ((Qa HB2).kept K3 (by simp));replace HK:=hide ((Qa HK).trans K3);clear K3 P67;refine Stp.go ?_))
 constructor
 go_wp2_with (first |(refine Le.ZT size39 rfl (.tmp 5) (.tmp 8) rfl rfl b2 0 (.int .i64 0) ⟨rfl,rfl⟩ rfl rfl (Qa HB2) (by simp) ?_;intro W4 B4 K4;replace HB1:=hide ((Qa HB1).kept K4 (by simpa using hne.symm));replace HB2:Hid (Blk W4 b2 39 [.int .i64 0]):=hide B4;replace HK:=hide ((Qa HK).upNew K4 (by simpa using n2));clear B4 K4;refine Stp.go ?_))
 constructor
 have hc2:=Qb (Qa HB2) 0 _ rfl;have y1:b1∉Y:=fun h=>by have:=Qa HY b1 h;omega
 have y2:b2∉Y:=fun h=>by have:=Qa HY b2 h;omega
 go_wp2_with (first |(refine wpCall0P rfl f 13 rfl cs rfl (Qa HE) ((Qa HDO _ (Qa HK)).mono ?_);refine Stp.go ?_))
 constructor
 rintro e W5 (⟨z,rfl,hz,ho,K5,hr⟩ | ⟨x,rfl,K5,hr⟩)
 · refine .inl ⟨_,rfl,?_⟩;replace HB1:=hide ((Qa HB1).kept K5 y1);replace HB2:=hide ((Qa HB2).kept K5 y2);have HRz:=hide hr;have HO:=hide ho;have hl1:(Vi.vwC Vi.zv).length=19:=rfl;clear K5 hr ho HDO HK hc2;go_wp2_with (first |(refine wpStoreA Vi.Qn rfl (.tmp 4) (.tmp 14) rfl b1 0 z rfl rfl hz (Qa HO) ((Qa HB1).there (by omega)) ?_;replace HB1:=hide ((Qa HB1).put (hl1.trans hz.symm));have k6:Kept [b1] W5 (W5.setCells b1 0 z):=(Kept.refl [b1] _).setCells _ _ (by simp);replace HB2:=hide ((Qa HB2).kept k6 (by simpa using hne));replace HRz:=hide (Qa HR _ _ _ _ [b1] (by simpa using n1) (Qa HRz) k6);clear k6;refine Stp.go ?_))
   constructor
   go_wp2_with (first |(refine Le.ZT size39 rfl (.tmp 5) (.const (.int .i64 0)) rfl rfl b2 0 (.int .i64 0) ⟨rfl,rfl⟩ rfl rfl (Qa HB2) (by simp) ?_;intro W7 B7 K7;replace HB1:=hide ((Qa HB1).kept K7 (by simpa using hne.symm));replace HB2:Hid (Blk W7 b2 39 [.int .i64 0]):=hide B7;replace HRz:=hide (Qa HR _ _ _ _ [b2] (by simpa using n2) (Qa HRz) K7);clear B7 K7;refine Stp.go ?_))
   constructor
   go_wp2_with fail
   refine leaves_cons (f:=103) (args:= #[P0 b2]) (by simp) (by simp [go_sem]) ?_;refine(catch103_idle ⟨b2,0,none⟩ _).mono ?_;rintro e u' w'' ⟨rfl,rfl,rfl⟩;exact⟨_,res43 _ b1 b2 z 0 _ rfl rfl hz (Qa HB1) (Qa HB2),z,0,rfl,hz,Qa HRz⟩
 · refine .inr ⟨_,rfl,?_⟩;have B1:=(Qa HB1).kept K5 y1;have B2:=(Qa HB2).kept K5 y2;refine leaves_cons (f:=103) (args:= #[P0 b2]) (by simp) (by simp [go_sem]) ?_;refine(catch103_panicking ⟨b2,0,none⟩ x 0 [] _ (Qb B2 0 _ rfl) (B2.frozen 0)).mono ?_;rintro e u' w'' ⟨rfl,rfl,rfl⟩;have k6:Kept [b2] W5 (W5.setCell ⟨b2,0,none⟩ (.int .i64 x)):=(Kept.refl [b2] _).setCell (by simp) _;exact⟨_,res43 _ b1 b2 _ x _ rfl rfl rfl (B1.kept k6 (by simpa using hne.symm)) (B2.set _),_,x,rfl,rfl,Qa HR _ _ _ _ [b2] (by simpa using n2) hr k6⟩
open Go.RowKit
def Qu (o:Option Dv.Dev) (j:Job):Bool:=decide (j.sectors.2=0)&&(decide (j.sectors.1≤Qs o)&&decide (j.n≤oNodes o))
theorem fits106 (bj bd:Nat) (p:Value) (o:Option Dv.Dev) (j:Job) (W:World) (hj:Blk W bj 23 (Qf j)) (hd:Blk W bd 32 [p]) (h:Dq W p o):Calls Tryz.prog 106 #[P0 bj,P0 bd] W fun r W'=>r= .returned (.bool (Qu o j))∧Kept [] W W':=by
 have hS:∀V,Kept [] W V→Hid (Calls Tryz.prog 105 #[p] V fun e w'=>e= .returned (.int .i64 (Qs o))∧w'=V):=fun V hV=>hide (Dv.size31 p _ V (h.kept hV).sz);have hN:∀V,Kept [] W V→Hid (Calls Tryz.prog 108 #[p] V fun e w'=>e= .returned (.int .i64 (oNodes o))∧w'=V):=fun V hV=>hide (Dv.nodes_any p _ V (h.kept hV).nd);have hA:=hide (Ar.sectors8 j W);have HJ:=hide hj;have HD:=hide hd;unfold Qu;obtain⟨⟨s,er⟩,hsd⟩:∃s,j.sectors=s:=⟨_,rfl⟩;obtain⟨n,hnd⟩:∃n,Qs o=n:=⟨_,rfl⟩;obtain⟨N,hNd⟩:∃N,oNodes o=N:=⟨_,rfl⟩;rw [hsd] at hA⊢;rw [hnd] at hS⊢;rw [hNd] at hN⊢;clear hj hd h hsd hnd hNd;go_enter Tryz.func106,Tryz.ntmps106
 go_wp2_with (first |(refine Qg Zv rfl (.tmp 0) rfl bj 0 rfl (Qf j) rfl (Qa HJ).range ?_;refine Stp.go ?_))
 constructor
 go_wp2_with (go_at_call 107;refine(Qa hA).mono ?_;rintro e W2 ⟨rfl,K2⟩;refine Stp.go ?_)
 constructor
 have cn:W2.cell? ⟨bj,0,none⟩=some (.int .i64 j.n):=Qb ((Qa HJ).kept K2 (by simp)) 0 _ rfl;have cd:=Qb ((Qa HD).kept K2 (by simp)) 0 _ rfl;clear HJ HD hA;go_wp2_with fail
 by_cases h0:er=0
 · subst h0;have hd:((0:Int) == 0)=true:=rfl;by_cases h1:s≤(n:Int)
   · have hd1:decide (s≤(n:Int))=true:=by simpa using h1
     go_quiet ((first |(go_at_call 105;exact Calls.quiet_of_same (Qa (hS _ (K2.drewN _)))) |(go_at_call 108;exact Calls.quiet_of_same (Qa (hN _ (K2.drewN _))))))
     go_wp2
     go_ret
     exact⟨QB (by simp [h1]),K2.drewN _⟩
   · have hd1:decide (s≤(n:Int))=false:=by simpa using h1
     go_quiet ((first |(go_at_call 105;exact Calls.quiet_of_same (Qa (hS _ (K2.drewN _)))) |(go_at_call 108;exact Calls.quiet_of_same (Qa (hN _ (K2.drewN _))))))
     go_wp2
     go_ret
     exact⟨QB (by simp [h1]),K2.drewN _⟩
 · have hd:(er == 0)=false:=by simpa using h0
   go_quiet ((first |(go_at_call 105;exact Calls.quiet_of_same (Qa (hS _ (K2.drewN _)))) |(go_at_call 108;exact Calls.quiet_of_same (Qa (hN _ (K2.drewN _))))))
   go_wp2
   go_ret
   exact⟨QB (by simp [h0]),K2.drewN _⟩
theorem fits45 (p:Value) (o:Option Dv.Dev) (j:Job) (w:World) (h:Dq w p o):Calls Tryz.prog 45 #[p,Qd (Qf j)] w fun r w'=>∃q,r= .returned q∧ZP w' q (qa (Qu o j) 2)∧Kept [] w w':=by
 obtain⟨ao,rfl⟩:=h.ptr;have hm:=hmf;have hk0:Kept [] w (w.alloc (.cells #[Value.pointer ao] 32)):=(Kept.refl _ _).alloc _;have hB0:=hide (heap_alloc_new w (.cells #[Value.pointer ao] 32));have HH:=hide (h.kept hk0);have HK0:=hide hk0;clear hk0 h;go_enter Tryz.func45,Tryz.ntmps45
 go_wp2_with (
  first
  |(refine Qp rfl (.tmp 1) rfl (Qf j) rfl ?_;intro W1 b1 e1 B1 K1;have hB:Blk W1 w.heap.size 32 [.pointer ao]:=Blk.kept (Qa hB0) K1 (by simp);have hQ:=hide (unless_q 2 106 #[P0 b1,P0 w.heap.size] (Qu o j) _ ent106 (fun W hW=>fits106 b1 w.heap.size (.pointer ao) o j W (B1.k92 hW (by decide)) (hB.k92 hW (by decide)) (((Qa HH).kept K1).k92 hW)));have hKK:=hide ((Qa HK0).trans K1);clear hB B1 K1 e1)
  |(go_at_call 78;refine(Qa hQ).mono ?_;rintro e W2 ⟨q,rfl,hq,hk2⟩))
 go_ret
 exact⟨q,rfl,hq,(Qa hKK).trans hk2⟩
end Go.Proofs.YtcfflbafclmheaaGreatDoor
