/-
  Texts of the walks of member, shortened.
-/
import Derived.Test.YtcfflbafclmheaaGreatDoorDav
set_option maxRecDepth 100000
set_option maxHeartbeats 100000000
set_option linter.unusedSimpArgs false
namespace Go.Proofs.YtcfflbafclmheaaGreatDoor
open Go.RowKit
open Le (Mm Qh Qo)
structure Ph (r sg eg:Nat) (D:Dv.Dev) (w W:World) (bs:List (Nat×Nat×List Value)):Prop where
 kept:Kept [r,sg,eg] w W
 rv:Dv.Rv W r sg eg D
 blk:∀x∈bs,Blk W x.1 x.2.1 x.2.2
 own:∀x∈bs,w.heap.size≤x.1
 nd:(bs.map (·.1)).Nodup
 ne:∀x∈bs,x.1∉ [r,sg,eg]
section
variable {r sg eg:Nat} {D D':Dv.Dev} {w W W':World} {bs:List (Nat×Nat×List Value)}
theorem Ph.init (h:Dv.Rv w r sg eg D):Ph r sg eg D w w []:=⟨Kept.refl _ _,h,(fun x hx=>by cases hx),(fun x hx=>by cases hx),List.nodup_nil,(fun x hx=>by cases hx)⟩
theorem Ph.step (h:Ph r sg eg D w W bs) (hk:Kept [] W W'):Ph r sg eg D w W' bs:=
 ⟨h.kept.trans (hk.mono (by simp)),h.rv.kept hk (by simp) (by simp) (by simp),fun x hx=>(h.blk x hx).kept hk (by simp),h.own,h.nd,h.ne⟩
theorem Ph.at (h:Ph r sg eg D w W bs) (i:Nat) (x:Nat×Nat×List Value) (hx:bs[i]?=some x):Blk W x.1 x.2.1 x.2.2:=h.blk x (List.mem_of_getElem? hx)
theorem Ph.new {b T:Nat} {vs:List Value} (h:Ph r sg eg D w W bs) (hb:b=W.heap.size) (B:Blk W' b T vs) (K:Kept [] W W'):Ph r sg eg D w W' (bs++ [(b,T,vs)]):=by
 have h':=h.step K;have hlt:=h.rv.lt;have hs:=h.kept.size;refine⟨h'.kept,h'.rv,?_,?_,?_,?_⟩
 · intro x hx;rcases List.mem_append.1 hx with hx | hx
   · exact h'.blk x hx
   · simp at hx;subst hx;exact B
 · intro x hx;rcases List.mem_append.1 hx with hx | hx
   · exact h.own x hx
   · simp at hx;subst hx;rw [hb];exact hs
 · rw [List.map_append,List.nodup_append];refine⟨h.nd,by simp,?_⟩;intro a ha c hc;simp at hc;subst hc;obtain⟨x,hx,rfl⟩:=List.mem_map.1 ha;have:=(h.blk x hx).lt;omega
 · intro x hx;rcases List.mem_append.1 hx with hx | hx
   · exact h.ne x hx
   · simp at hx;subst hx;simp;omega
theorem Ph.dev {Y:List Nat} (h:Ph r sg eg D w W bs) (k:Kept Y W W') (hY:Y⊆ [r,sg,eg]) (hr:Dv.Rv W' r sg eg D'):Ph r sg eg D' w W' bs:=
 ⟨h.kept.trans (k.mono hY),hr,fun x hx=>(h.blk x hx).kept k (fun hm=>h.ne x hx (hY hm)),h.own,h.nd,h.ne⟩
theorem Ph.mm (h:Ph r sg eg D w W bs):Mm (bs.map (·.1)) W W bs:=⟨Kept.refl _ _,h.blk,(fun x hx _=>List.mem_map.2 ⟨x,hx,rfl⟩),h.nd⟩
theorem Ph.upd {cs:List (Nat×Nat×List Value)} (h:Ph r sg eg D w W bs) (m:Mm (bs.map (·.1)) W W' cs) (e:cs.map (·.1)=bs.map (·.1)):Ph r sg eg D w W' cs:=by
 have hn:∀q∈ [r,sg,eg],q∉bs.map (·.1):=fun q hq hm=>by
   obtain⟨x,hx,rfl⟩:=List.mem_map.1 hm;exact h.ne x hx hq
 have hmem:∀x∈cs,∃y∈bs,y.1=x.1:=fun x hx=>by
   have:x.1∈bs.map (·.1):=by rw [← e];exact List.mem_map.2 ⟨x,hx,rfl⟩
   obtain⟨y,hy,h9⟩:=List.mem_map.1 this;exact⟨y,hy,h9⟩
 refine⟨h.kept.fresh m.kept (fun k hk hl=> ?_),h.rv.kept m.kept (hn r (by simp)) (hn sg (by simp)) (hn eg (by simp)),m.blk,?_,by rw [e];exact h.nd,?_⟩
 · obtain⟨x,hx,rfl⟩:=List.mem_map.1 hk;have:=h.own x hx;omega
 · intro x hx;obtain⟨y,hy,h9⟩:=hmem x hx;rw [← h9];exact h.own y hy
 · intro x hx;obtain⟨y,hy,h9⟩:=hmem x hx;rw [← h9];exact h.ne y hy
theorem set_fst {b T:Nat} {us vs:List Value} (i:Nat) (hi:bs[i]?=some (b,T,us)):(bs.set i (b,T,vs)).map (·.1)=bs.map (·.1):=by
 rw [List.map_set];refine List.ext_getElem? fun j=> ?_;rw [List.getElem?_set];split
 · rename_i hj;subst hj;split
   · rw [List.getElem?_map,hi];rfl
   · rename_i hl;rw [List.getElem?_eq_none (by omega)]
 · rfl
end
section
variable {ops:Array Oper} {rest:List Oper} {op:Oper} {a:Act} {w w0:World} {Q:Exit→Act→World→Prop} {bs:List (Nat×Nat×List Value)} {r sg eg:Nat} {D:Dv.Dev}
theorem QQ {T n:Nat} (hT:Row T n) (hgd:op.guard=none) (x y:Operand) (ho:op.op= .store T x y) (hd:op.dst=none) (b i:Nat) (vs:List Value) (hx:a.eval x=P0 b) (hy:a.eval y=Qd vs) (hl:vs.length=n) (h1:∀v∈vs,v.oneCell'=true) (hM:Ph r sg eg D w0 w bs) {us:List Value} (hi:bs[i]?=some (b,T,us)) (hu:us.length=n)
  (h:∀W,Ph r sg eg D w0 W (bs.set i (b,T,vs))→wpList Tryz.prog ops Q rest a W):wpList Tryz.prog ops Q (op::rest) a w:=
 Qh hT hgd x y ho hd b i vs hx hy hl h1 hM.mm hi hu fun W m=>h W (hM.upd m (set_fst i hi))
theorem wpStoreP1 {T:Nat} (hs:(Tryz.prog.info? T).map (·.size)=some 1) (hgd:op.guard=none) (x y:Operand) (ho:op.op= .store T x y) (hd:op.dst=none) (b off i:Nat) (v:Value) (h1:Le.One v) (hx:a.eval x= .pointer (some ⟨b,off,none⟩)) (hy:a.eval y=v) (hM:Ph r sg eg D w0 w bs) {TT:Nat} {us:List Value} (hi:bs[i]?=some (b,TT,us)) (hl:off<us.length)
  (h:∀W,Ph r sg eg D w0 W (bs.set i (b,TT,us.set off v))→wpList Tryz.prog ops Q rest a W):wpList Tryz.prog ops Q (op::rest) a w:=
 Qo hs hgd x y ho hd b off i v h1 hx hy hM.mm hi hl fun W m=>h W (hM.upd m (set_fst i hi))
end
theorem cg143 (vs:Array Value) (w:World):(callFunc 143 vs).run Tryz.prog w= .ok (.enter 143 vs) w:=by kernel_rfl
theorem res97 (w:World) (z:Nat) (vs:List Value) (b:Bool) (e:Int) (tmps:Array Value) (h4:tmps[12]?.getD undef=P0 z) (h5:tmps[13]?.getD undef= .bool b) (h6:tmps[14]?.getD undef= .int .i64 e) (hl:vs.length=19) (hb:Blk w z 29 vs):(results Tryz.f97 tmps).run Tryz.prog w= .ok (.tuple #[Qd vs,.bool b,.int .i64 e]) w:=by
 have:=Zq Vi.Qn hl hb;simp [results,Tryz.results97,h4,h5,h6,this,asAddr]
@[reducible] def SW (V:World) (r sg eg:Nat) (D':Dv.Dev) (d:Nat→Bool) (_:Nat→Value) (W:World):Prop:=
 Kept [r,sg,eg] V W∧(d 7=false→Kept [] V W)∧(d 7=true→Dv.Rv W r sg eg D')
theorem SW.loc {V:World} {r sg eg:Nat} {D':Dv.Dev} :∀d d' vs vs' W,(∀i∈ [7],d i=d' i∧vs i=vs' i)→SW V r sg eg D' d vs W→SW V r sg eg D' d' vs' W:=by
 intro d d' vs vs' W H h;have e0:=H 7 (by simp);unfold SW at h⊢;rw [← e0.1];exact h
theorem SW.step {V W W':World} {r sg eg:Nat} {D':Dv.Dev} {d:Nat→Bool} {vs:Nat→Value} (h:SW V r sg eg D' d vs W) (hk:Kept [] W W'):SW V r sg eg D' d vs W':=
 ⟨h.1.trans (hk.mono (by simp)),fun h7=>(h.2.1 h7).trans hk,fun h7=>(h.2.2 h7).kept hk (by simp) (by simp) (by simp)⟩
set_option linter.unusedVariables false in
theorem rswap_e_F:(∀(r sg eg:Nat) (D:Dv.Dev) (J:Ar.Job) (n ep:Int) (v u:Vi.Vw) (w:World) (h:Dv.Rv w r sg eg D) (hv:v.Ok) (hu:u.Ok) (hvm:v.may=true) (hum:u.may=true) (dd:Bool) (ee:Int) (D2:Dv.Dev) (hsw:D.swap n ep 0 (Vi.Zr v).1 (Vi.Zr u).1=(dd,ee,D2)) (he:decide (ee=0)=false),Calls Tryz.prog 97 #[P0 r,Qd (Ar.Qf J),.int .i64 n,.int .i64 ep,Qd (Vi.vwC v),Qd (Vi.vwC u)] w fun x w'=>x= .returned (.tuple #[Qd (Vi.vwC Vi.zv),.bool false,.int .i64 ee])∧Dv.Rv w' r sg eg D2∧Kept [r,sg,eg] w w')∧(∀(r sg eg:Nat) (D:Dv.Dev) (J:Ar.Job) (n ep:Int) (v u:Vi.Vw) (w:World) (h:Dv.Rv w r sg eg D) (hv:v.Ok) (hu:u.Ok) (hvm:v.may=true) (hum:u.may=true) (dd:Bool) (ee:Int) (D2:Dv.Dev) (hsw:D.swap n ep 0 (Vi.Zr v).1 (Vi.Zr u).1=(dd,ee,D2)) (he:ee=0) (hd:dd=true),Calls Tryz.prog 97 #[P0 r,Qd (Ar.Qf J),.int .i64 n,.int .i64 ep,Qd (Vi.vwC v),Qd (Vi.vwC u)] w fun x w'=>x= .returned (.tuple #[Qd (Vi.vwC u),.bool true,.int .i64 0])∧Dv.Rv w' r sg eg D2∧Kept [r,sg,eg] w w')∧(∀(r sg eg:Nat) (D:Dv.Dev) (J:Ar.Job) (n ep:Int) (v u:Vi.Vw) (w:World) (h:Dv.Rv w r sg eg D) (hv:v.Ok) (hu:u.Ok) (hvm:v.may=true) (hum:u.may=true) (dd:Bool) (ee:Int) (D2:Dv.Dev) (hsw:D.swap n ep 0 (Vi.Zr v).1 (Vi.Zr u).1=(dd,ee,D2)) (he:ee=0) (hd:dd=false) (y:Vi.Vw) (ye:Int) (hy:oV D2=(y,ye)) (hyl:y.ms.length=8),Calls Tryz.prog 97 #[P0 r,Qd (Ar.Qf J),.int .i64 n,.int .i64 ep,Qd (Vi.vwC v),Qd (Vi.vwC u)] w fun x w'=>x= .returned (.tuple #[Qd (Vi.vwC y),.bool false,.int .i64 ye])∧Dv.Rv w' r sg eg D2∧Kept [r,sg,eg] w w'):=by
 refine⟨fun r sg eg D J n ep v u w h hv hu hvm hum dd ee D2 hsw he=> ?_,fun r sg eg D J n ep v u w h hv hu hvm hum dd ee D2 hsw he hd=> ?_,fun r sg eg D J n ep v u w h hv hu hvm hum dd ee D2 hsw he hd y ye hy hyl=> ?_⟩;have HVL:Hid ((Vi.vwC v).length=19):=Vi.Qk hv.len;have HUL:Hid ((Vi.vwC u).length=19):=Vi.Qk hu.len;have PA:=hide (fun W=>rput113 v W hv hvm);have PB:=hide (fun W=>rput113 u W hu hum);have hA:=putV_sec v hv.len;have hB:=putV_sec u hu.len;have PS:=hide (fun W (h0:Dv.Rv W r sg eg D)=>Dv.r_swap r sg eg D n ep 0 _ _ W h0 hA hB);obtain⟨A,hA9⟩:∃A,A=(Vi.Zr v).1:=⟨_,rfl⟩;obtain⟨B,hB9⟩:∃B,B=(Vi.Zr u).1:=⟨_,rfl⟩;rw [← hA9,← hB9] at hsw PS;rw [← hA9] at PA;rw [← hB9] at PB;rw [hsw] at PS;have he2:¬ee=0:=of_decide_eq_false he;clear hsw hA hB hA9 hB9 hvm hum hv hu;have M:Hid (Ph r sg eg D w w []):=hide (Ph.init h);clear h
 rotate_left
 have HVL:Hid ((Vi.vwC v).length=19):=Vi.Qk hv.len;have HUL:Hid ((Vi.vwC u).length=19):=Vi.Qk hu.len;have PA:=hide (fun W=>rput113 v W hv hvm);have PB:=hide (fun W=>rput113 u W hu hum);have hA:=putV_sec v hv.len;have hB:=putV_sec u hu.len;have PS:=hide (fun W (h0:Dv.Rv W r sg eg D)=>Dv.r_swap r sg eg D n ep 0 _ _ W h0 hA hB);obtain⟨A,hA9⟩:∃A,A=(Vi.Zr v).1:=⟨_,rfl⟩;obtain⟨B,hB9⟩:∃B,B=(Vi.Zr u).1:=⟨_,rfl⟩;rw [← hA9,← hB9] at hsw PS;rw [← hA9] at PA;rw [← hB9] at PB;rw [hsw] at PS;have HED:=hide (And.intro he hd);clear he hd;clear hsw hA hB hA9 hB9 hvm hum hv hu;have M:Hid (Ph r sg eg D w w []):=hide (Ph.init h);clear h
 rotate_left
 have HVL:Hid ((Vi.vwC v).length=19):=Vi.Qk hv.len;have HUL:Hid ((Vi.vwC u).length=19):=Vi.Qk hu.len;have PA:=hide (fun W=>rput113 v W hv hvm);have PB:=hide (fun W=>rput113 u W hu hum);have hA:=putV_sec v hv.len;have hB:=putV_sec u hu.len;have PS:=hide (fun W (h0:Dv.Rv W r sg eg D)=>Dv.r_swap r sg eg D n ep 0 _ _ W h0 hA hB);obtain⟨A,hA9⟩:∃A,A=(Vi.Zr v).1:=⟨_,rfl⟩;obtain⟨B,hB9⟩:∃B,B=(Vi.Zr u).1:=⟨_,rfl⟩;rw [← hA9,← hB9] at hsw PS;rw [← hA9] at PA;rw [← hB9] at PB;rw [hsw] at PS;have HED:=hide (And.intro he hd);clear he hd;have PV:=hide (fun W (h0:Dv.Rv W r sg eg D2)=>rview14 r sg eg D2 J W h0);rw [hy] at PV;have HYL:Hid ((Vi.vwC y).length=19):=Vi.Qk hyl;clear hy hyl;clear hsw hA hB hA9 hB9 hvm hum hv hu;have M:Hid (Ph r sg eg D w w []):=hide (Ph.init h);clear h
 rotate_left
 all_goals
   go_enter Tryz.func97,Tryz.ntmps97
   go_wp2_with (first |(refine Qp rfl (.tmp 1) rfl (Ar.Qf J) rfl ?_;intro W1 b1 e1 B1 K1;replace M:=hide ((Qa M).new e1 B1 K1);clear e1 B1 K1;refine Stp.go ?_))
   constructor
   go_wp2_with (first |(refine Qp rfl (.tmp 4) rfl (Vi.vwC v) rfl ?_;intro W2 b2 e2 B2 K2;replace M:=hide ((Qa M).new e2 B2 K2);clear e2 B2 K2;refine Stp.go ?_))
   constructor
   go_wp2_with (first |(refine Qp rfl (.tmp 5) rfl (Vi.vwC u) rfl ?_;intro W3 b3 e3 B3 K3;replace M:=hide ((Qa M).new e3 B3 K3);clear e3 B3 K3;refine Stp.go ?_))
   constructor
   go_wp2_with (first |(refine Qv (Vi.vwC Vi.zv) Vi.QE 12 rfl rfl rfl ?_;intro W4 b4 e4 B4 K4;replace M:=hide ((Qa M).new e4 B4 K4);clear e4 B4 K4;refine Stp.go ?_))
   constructor
   go_wp2_with fail
   refine wp_region_any mixed (QL 13 rfl (by kernel_rfl) [some (P0 r),some (.int .i64 n),some (.int .i64 ep),some (Qd (Vi.vwC v)),some (Qd (u8s A)),some (Qd (Vi.vwC u)),some (Qd (u8s B)),some (.tuple #[.bool dd,.int .i64 ee]),some (.tuple #[.bool dd,.int .i64 ee]),some (.bool dd),some (.int .i64 ee),some (.bool dd),some (.int .i64 ee)] rfl (by kernel_rfl) (fun l vs W=>(SW W4 r sg eg D2) (fun i=>l.getD i false) vs W) (⟨⟨rfl,rfl,rfl,Nat.le_refl _,fun _ _ _=>rfl⟩,(fun _=>⟨rfl,rfl,rfl,Nat.le_refl _,fun _ _ _=>rfl⟩),(fun h=>by cases h)⟩) ?_ ?_)
   · intro ix o' hi ho a' w2 l_ vs hls hlf hJ hout hin hdep hnot
     match ix,ho with
     | 0,ho=>
      obtain rfl:=Oj9 ho;have e0:=hout 0 (by kernel_rfl);replace e0:a'.eval (.tmp 0)=_:=e0.trans rfl;exact wp_move (.tmp 0) rfl _ e0 ⟨_,rfl,Qe rfl,Le.Qj [7] SW.loc (by omega) (by decide) hJ⟩
     | 1,ho=>
      obtain rfl:=Oj9 ho;have e0:=hout 2 (by kernel_rfl);replace e0:a'.eval (.tmp 2)=_:=e0.trans rfl;exact wp_move (.tmp 2) rfl _ e0 ⟨_,rfl,Qe rfl,Le.Qj [7] SW.loc (by omega) (by decide) hJ⟩
     | 2,ho=>
      obtain rfl:=Oj9 ho;have e0:=hout 3 (by kernel_rfl);replace e0:a'.eval (.tmp 3)=_:=e0.trans rfl;exact wp_move (.tmp 3) rfl _ e0 ⟨_,rfl,Qe rfl,Le.Qj [7] SW.loc (by omega) (by decide) hJ⟩
     | 3,ho=>
      obtain rfl:=Oj9 ho;have e0:=hout 10 (by kernel_rfl);replace e0:a'.eval (.tmp 10)=_:=e0.trans rfl;exact Qw Vi.Qn (.tmp 10) rfl b2 0 e0 (Vi.vwC v) (Qa HVL) (((Qa M).at 1 _ rfl).kept hJ.1 ((Qa M).ne (b2,29,Vi.vwC v) (by simp))).range ⟨_,rfl,Qe rfl,Le.Qj [7] SW.loc (by omega) (by decide) hJ⟩
     | 4,ho=>
      obtain rfl:=Oj9 ho;have e0:a'.eval (.tmp 22)=Qd (Vi.vwC v):=by have h9:=hin 3 22 (by kernel_rfl) (by kernel_rfl);exact h9.1.trans (Qc _ h9.2 rfl)
      refine Qq 113 _ _ rfl #[Qd (Vi.vwC v)] (by simp [e0]) (cg113 _ _) ((Qa PA w2).mono ?_);rintro e w3 ⟨rfl,hk3⟩;exact⟨_,rfl,_,rfl,Qe rfl,Le.Qj [7] SW.loc (by omega) (by decide) (SW.step hJ hk3)⟩
     | 5,ho=>
      obtain rfl:=Oj9 ho;have e0:=hout 11 (by kernel_rfl);replace e0:a'.eval (.tmp 11)=_:=e0.trans rfl;exact Qw Vi.Qn (.tmp 11) rfl b3 0 e0 (Vi.vwC u) (Qa HUL) (((Qa M).at 2 _ rfl).kept hJ.1 ((Qa M).ne (b3,29,Vi.vwC u) (by simp))).range ⟨_,rfl,Qe rfl,Le.Qj [7] SW.loc (by omega) (by decide) hJ⟩
     | 6,ho=>
      obtain rfl:=Oj9 ho;have e0:a'.eval (.tmp 24)=Qd (Vi.vwC u):=by have h9:=hin 5 24 (by kernel_rfl) (by kernel_rfl);exact h9.1.trans (Qc _ h9.2 rfl)
      refine Qq 113 _ _ rfl #[Qd (Vi.vwC u)] (by simp [e0]) (cg113 _ _) ((Qa PB w2).mono ?_);rintro e w3 ⟨rfl,hk3⟩;exact⟨_,rfl,_,rfl,Qe rfl,Le.Qj [7] SW.loc (by omega) (by decide) (SW.step hJ hk3)⟩
     | 7,ho=>
      obtain rfl:=Oj9 ho;have e0:a'.eval (.tmp 19)=P0 r:=by have h9:=hin 0 19 (by kernel_rfl) (by kernel_rfl);exact h9.1.trans (Qc _ h9.2 rfl)
      have e1:a'.eval (.tmp 20)= .int .i64 n:=by have h9:=hin 1 20 (by kernel_rfl) (by kernel_rfl);exact h9.1.trans (Qc _ h9.2 rfl)
      have e2:a'.eval (.tmp 21)= .int .i64 ep:=by have h9:=hin 2 21 (by kernel_rfl) (by kernel_rfl);exact h9.1.trans (Qc _ h9.2 rfl)
      have e3:a'.eval (.tmp 23)=Qd (u8s A):=by have h9:=hin 4 23 (by kernel_rfl) (by kernel_rfl);exact h9.1.trans (Qc _ h9.2 rfl)
      have e4:a'.eval (.tmp 25)=Qd (u8s B):=by have h9:=hin 6 25 (by kernel_rfl) (by kernel_rfl);exact h9.1.trans (Qc _ h9.2 rfl)
      refine Qq 143 _ _ rfl #[P0 r,.int .i64 n,.int .i64 ep,.int .i64 0,Qd (u8s A),Qd (u8s B)] (by simp [e0,e1,e2,e3,e4];rfl) (cg143 _ _) ((Qa PS w2 ((Qa M).step (hJ.2.1 hlf)).rv).mono ?_);rintro e w3 ⟨rfl,hR3,hk3⟩;exact⟨_,rfl,_,rfl,Qe rfl,Le.QJ (by omega) ⟨hJ.1.trans (hk3.mono (by simp)),(fun h=>by cases h),fun _=>hR3⟩⟩
     | 8,ho=>
      obtain rfl:=Oj9 ho;have e0:a'.eval (.tmp 26)= .tuple #[.bool dd,.int .i64 ee]:=by have h9:=hin 7 26 (by kernel_rfl) (by kernel_rfl);exact h9.1.trans (Qc _ h9.2 rfl)
      exact wp_move (.tmp 26) rfl _ e0 ⟨_,rfl,Qe rfl,Le.Qj [7] SW.loc (by omega) (by decide) hJ⟩
     | 9,ho=>
      obtain rfl:=Oj9 ho;have e0:a'.eval (.tmp 18)= .tuple #[.bool dd,.int .i64 ee]:=by have h9:=hin 8 18 (by kernel_rfl) (by kernel_rfl);exact h9.1.trans (Qc _ h9.2 rfl)
      exact o_ext (.tmp 18) 0 rfl _ _ e0 rfl ⟨_,rfl,Qe rfl,Le.Qj [7] SW.loc (by omega) (by decide) hJ⟩
     | 10,ho=>
      obtain rfl:=Oj9 ho;have e0:a'.eval (.tmp 18)= .tuple #[.bool dd,.int .i64 ee]:=by have h9:=hin 8 18 (by kernel_rfl) (by kernel_rfl);exact h9.1.trans (Qc _ h9.2 rfl)
      exact o_ext (.tmp 18) 1 rfl _ _ e0 rfl ⟨_,rfl,Qe rfl,Le.Qj [7] SW.loc (by omega) (by decide) hJ⟩
     | 11,ho=>
      obtain rfl:=Oj9 ho;have e0:a'.eval (.tmp 27)= .bool dd:=by have h9:=hin 9 27 (by kernel_rfl) (by kernel_rfl);exact h9.1.trans (Qc _ h9.2 rfl)
      exact QI (.tmp 27) rfl _ e0 ⟨_,rfl,Qe rfl,Le.Qj [7] SW.loc (by omega) (by decide) hJ⟩
     | 12,ho=>
      obtain rfl:=Oj9 ho;have e0:a'.eval (.tmp 28)= .int .i64 ee:=by have h9:=hin 10 28 (by kernel_rfl) (by kernel_rfl);exact h9.1.trans (Qc _ h9.2 rfl)
      exact QI (.tmp 28) rfl _ e0 ⟨_,rfl,Qe rfl,Le.Qj [7] SW.loc (by omega) (by decide) hJ⟩
   intro l_ vs9 V9 hl hJ htold;have t0:vs9 0=P0 r:=Qc _ (htold 0 (by decide)) rfl;have t1:vs9 1= .int .i64 n:=Qc _ (htold 1 (by decide)) rfl;have t2:vs9 2= .int .i64 ep:=Qc _ (htold 2 (by decide)) rfl;have t3:vs9 3=Qd (Vi.vwC v):=Qc _ (htold 3 (by decide)) rfl;have t4:vs9 4=Qd (u8s A):=Qc _ (htold 4 (by decide)) rfl;have t5:vs9 5=Qd (Vi.vwC u):=Qc _ (htold 5 (by decide)) rfl;have t6:vs9 6=Qd (u8s B):=Qc _ (htold 6 (by decide)) rfl;have t7:vs9 7= .tuple #[.bool dd,.int .i64 ee]:=Qc _ (htold 7 (by decide)) rfl;have t8:vs9 8= .tuple #[.bool dd,.int .i64 ee]:=Qc _ (htold 8 (by decide)) rfl;have t9:vs9 9= .bool dd:=Qc _ (htold 9 (by decide)) rfl;have t10:vs9 10= .int .i64 ee:=Qc _ (htold 10 (by decide)) rfl;have t11:vs9 11= .bool dd:=Qc _ (htold 11 (by decide)) rfl;have t12:vs9 12= .int .i64 ee:=Qc _ (htold 12 (by decide)) rfl;rw [show (List.range 13).map vs9= [vs9 0,vs9 1,vs9 2,vs9 3,vs9 4,vs9 5,vs9 6,vs9 7,vs9 8,vs9 9,vs9 10,vs9 11,vs9 12] from rfl];simp only [t0,t1,t2,t3,t4,t5,t6,t7,t8,t9,t10,t11,t12,Qz,Act.put,List.setIfInBounds_toArray,List.set_cons_succ,List.set_cons_zero];clear t0 t1 t2 t3 t4 t5 t6 t7 t8 t9 t10 t11 t12 htold;replace M:Hid (Ph r sg eg D2 w V9 [(b1,23,Ar.Qf J),(b2,29,Vi.vwC v),(b3,29,Vi.vwC u),(b4,29,Vi.vwC Vi.zv)]):=hide ((Qa M).dev hJ.1 (fun _ h=>h) (hJ.2.2 (hl 7 (by decide))));clear hJ hl
 · go_wp2_with (first |(refine QG (Vi.vwC Vi.zv) Vi.Zi rfl rfl ?_;refine Stp.go ?_))
   constructor
   go_wp2_with (first |(refine QQ Vi.Qn rfl (.tmp 12) (.tmp 31) rfl rfl b4 3 (Vi.vwC Vi.zv) rfl rfl rfl (Vi.Ql _) (Qa M) rfl rfl ?_;intro W61 N61;replace M:Hid (Ph r sg eg D2 w W61 [(b1,23,Ar.Qf J),(b2,29,Vi.vwC v),(b3,29,Vi.vwC u),(b4,29,Vi.vwC Vi.zv)]):=hide N61;clear N61;refine Stp.go ?_))
   constructor
   go_wp2_with fail
   refine bodyPost_ret (res97 _ b4 (Vi.vwC Vi.zv) false ee _ rfl rfl rfl rfl ((Qa M).at 3 _ rfl)) rfl ?_;exact⟨rfl,(Qa M).rv,(Qa M).kept⟩
 all_goals
   obtain⟨he,hd⟩:=Qa HED;subst he hd
 · go_wp2_with (first |(refine Qg Vi.Qn rfl (.tmp 11) rfl b3 0 rfl (Vi.vwC u) (Qa HUL) ((Qa M).at 2 _ rfl).range ?_;refine Stp.go ?_))
   constructor
   go_wp2_with (first |(refine QQ Vi.Qn rfl (.tmp 12) (.tmp 34) rfl rfl b4 3 (Vi.vwC u) rfl rfl (Qa HUL) (Vi.Ql _) (Qa M) rfl rfl ?_;intro W61 N61;replace M:Hid (Ph r sg eg D2 w W61 [(b1,23,Ar.Qf J),(b2,29,Vi.vwC v),(b3,29,Vi.vwC u),(b4,29,Vi.vwC u)]):=hide N61;clear N61;refine Stp.go ?_))
   constructor
   go_wp2_with fail
   refine bodyPost_ret (res97 _ b4 (Vi.vwC u) true 0 _ rfl rfl rfl (Qa HUL) ((Qa M).at 3 _ rfl)) rfl ?_;exact⟨rfl,(Qa M).rv,(Qa M).kept⟩
 go_wp2_with (first |(refine Qg Zv rfl (.tmp 7) rfl b1 0 rfl (Ar.Qf J) rfl ((Qa M).at 0 _ rfl).range ?_;refine Stp.go ?_))
 constructor
 go_wp2_with (first |(go_at_call 14;refine(Qa PV _ (Qa M).rv).mono ?_;rintro e W61 ⟨rfl,K61⟩;replace M:=hide ((Qa M).step K61);clear K61;refine Stp.go ?_))
 constructor
 go_wp2_with (first |(refine QM Vi.Qn (Vi.vwC Vi.zv) rfl Vi.QE 17 rfl rfl rfl (.tmp 39) rfl rfl rfl (Vi.vwC y) (Qa HYL) (Vi.Ql _) (by kernel_rfl) (by kernel_rfl) ?_;intro W62 b62 e62 B62 K62;replace M:=hide ((Qa M).new e62 B62 K62);clear e62 B62 K62;refine Stp.go ?_))
 constructor
 go_wp2_with (first |(refine Qg Vi.Qn rfl (.tmp 17) rfl b62 0 rfl (Vi.vwC y) (Qa HYL) ((Qa M).at 4 _ rfl).range ?_;refine Stp.go ?_))
 constructor
 go_wp2_with (first |(refine QQ Vi.Qn rfl (.tmp 12) (.tmp 41) rfl rfl b4 3 (Vi.vwC y) rfl rfl (Qa HYL) (Vi.Ql _) (Qa M) rfl rfl ?_;intro W63 N63;replace M:Hid (Ph r sg eg D2 w W63 [(b1,23,Ar.Qf J),(b2,29,Vi.vwC v),(b3,29,Vi.vwC u),(b4,29,Vi.vwC y),(b62,29,Vi.vwC y)]):=hide N63;clear N63;refine Stp.go ?_))
 constructor
 go_wp2_with fail
 refine bodyPost_ret (res97 _ b4 (Vi.vwC y) false ye _ rfl rfl rfl (Qa HYL) ((Qa M).at 3 _ rfl)) rfl ?_;exact⟨rfl,(Qa M).rv,(Qa M).kept⟩
theorem oV_okD {D:Dv.Dev} (h:D.Ok):(oV D).1.Ok:=getV_ok _ ⟨(read0 h▸read_sec h 0).1,(read0 h▸read_sec h 0).2⟩
theorem rswap97 (r sg eg:Nat) (D:Dv.Dev) (J:Ar.Job) (n ep:Int) (v u:Vi.Vw) (w:World) (h:Dv.Rv w r sg eg D) (hv:v.Ok) (hu:u.Ok) (hvm:v.may=true) (hum:u.may=true):Calls Tryz.prog 97 #[P0 r,Qd (Ar.Qf J),.int .i64 n,.int .i64 ep,Qd (Vi.vwC v),Qd (Vi.vwC u)] w fun x w'=>x= .returned (.tuple #[Qd (Vi.vwC (mswap D n ep v u).1.1),.bool (mswap D n ep v u).1.2,.int .i64 (mswap D n ep v u).2.1])∧Dv.Rv w' r sg eg (mswap D n ep v u).2.2∧Kept [r,sg,eg] w w':=by
 unfold mswap;have hDD:(D.swap n ep 0 (Vi.Zr v).1 (Vi.Zr u).1).1=false→(D.swap n ep 0 (Vi.Zr v).1 (Vi.Zr u).1).2.2=D:=by
   unfold Dv.Dev.swap;split
   · split
     · intro h;cases h
     · intro _;rfl
   · intro _;rfl
 obtain⟨⟨dd,ee,D2⟩,hsw⟩:∃x,D.swap n ep 0 (Vi.Zr v).1 (Vi.Zr u).1=x:=⟨_,rfl⟩;rw [hsw] at hDD⊢;by_cases he:ee=0
 · rw [if_pos (show((dd,ee,D2):Bool×Int×Dv.Dev).2.1=0 from he)];cases hd:dd with
   | true=>
     rw [if_pos rfl];exact rswap_e_F.2.1 r sg eg D J n ep v u w h hv hu hvm hum dd ee D2 hsw he hd
   | false=>
     have hD2:D2=D:=hDD hd;have hy:=(oV_okD h.ok).len;rw [← hD2] at hy;rw [if_neg (by simp)];exact rswap_e_F.2.2 r sg eg D J n ep v u w h hv hu hvm hum dd ee D2 hsw he hd _ _ rfl hy
 · rw [if_neg (show ¬((dd,ee,D2):Bool×Int×Dv.Dev).2.1=0 from he)];exact rswap_e_F.1 r sg eg D J n ep v u w h hv hu hvm hum dd ee D2 hsw (decide_eq_false he)
open Go.RowKit
open Le (Mm Qh Qo)
section
variable {o:Oper} {a:Act} {w:World} {K:Act→World→Prop} {Q:Exit→Act→World→Prop}
theorem o_fldL (x:Operand) (i:Nat) (hi:i<3) (ho:o.op= .fieldAddr 73 x i) (b:Nat) (hx:a.eval x=P0 b) (h:K (a.put o.dst (.pointer (some ⟨b,i,none⟩))) w):o.wp Tryz.prog a w K Q:=by
 unfold Oper.wp execOp;simp only [ho,hx];rcases (show i=0∨i=1∨i=2 by omega) with rfl | rfl | rfl <;> (simp [go_sem];exact h)
theorem o_fldM1 (x:Operand) (ho:o.op= .fieldAddr 26 x 1) (b i:Nat) (hx:a.eval x= .pointer (some ⟨b,i,none⟩)) (h:K (a.put o.dst (.pointer (some ⟨b,i+1,none⟩))) w):o.wp Tryz.prog a w K Q:=by
 unfold Oper.wp execOp;simp only [ho,hx];simp [go_sem];exact h
theorem o_eql2 (x y:Operand) (ho:o.op= .binOp .eql 2 x y 2) (m n:Int) (r:Bool) (hr:decide (m=n)=r) (hx:a.eval x= .int .i64 m) (hy:a.eval y= .int .i64 n) (h:K (a.put o.dst (.bool r)) w):o.wp Tryz.prog a w K Q:=by
 subst hr;unfold Oper.wp execOp;simp only [ho,hx,hy];simp [go_sem];have e:(m == n)=decide (m=n):=by rw [Bool.eq_iff_iff];simp
 rw [e];exact h
theorem o_geq2 (x y:Operand) (ho:o.op= .binOp .geq 2 x y 2) (m n:Int) (r:Bool) (hr:decide (n≤m)=r) (hx:a.eval x= .int .i64 m) (hy:a.eval y= .int .i64 n) (h:K (a.put o.dst (.bool r)) w):o.wp Tryz.prog a w K Q:=by
 subst hr;unfold Oper.wp execOp;simp only [ho,hx,hy];simp [go_sem];exact h
theorem ZA (c x:Operand) (ho:o.op= .pick c x (.const (.bool false))) (hc:a.eval c= .bool false) (h:K (a.put o.dst (.bool false)) w):o.wp Tryz.prog a w K Q:=by
 unfold Oper.wp execOp;simp only [ho,hc];simp [go_sem,Act.eval];exact h
theorem ZB (c x:Operand) (ho:o.op= .pick c x (.const (.bool false))) (r:Bool) (hc:a.eval c= .bool true) (hx:a.eval x= .bool r) (h:K (a.put o.dst (.bool r)) w):o.wp Tryz.prog a w K Q:=by
 unfold Oper.wp execOp;simp only [ho,hc,hx];simp [go_sem];exact h
end
def rready (D:Dv.Dev) (J:Ar.Job) (v:Vi.Vw) (n:Int):Bool:=decide ((rlease D J n).2=0)&&(decide ((rlease D J n).1.ep=(v.mem n).2)&&decide (v.nu≤(rlease D J n).1.re))
set_option linter.unusedVariables false in
theorem rready_x_F:(∀(r:Nat) (J:Ar.Job) (v:Vi.Vw) (k:Nat) (w:World) (l:Le.Le) (e:Int) (hL:∀W,Kept [] w W→Calls Tryz.prog 42 #[P0 r,Qd (Ar.Qf J),.int .i64 k] W fun x w'=>x= .returned (.tuple #[Qd (Le.Le.C l),.int .i64 e])∧Kept [] W w') (he:decide (e=0)=false),Calls Tryz.prog 51 #[P0 r,Qd (Ar.Qf J),Qd (Vi.vwC v),.int .i64 k] w fun x w'=>x= .returned (.bool false)∧Kept [] w w')∧(∀(r:Nat) (J:Ar.Job) (v:Vi.Vw) (k:Nat) (w:World) (hk8:k<8) (l:Le.Le) (e:Int) (hL:∀W,Kept [] w W→Calls Tryz.prog 42 #[P0 r,Qd (Ar.Qf J),.int .i64 k] W fun x w'=>x= .returned (.tuple #[Qd (Le.Le.C l),.int .i64 e])∧Kept [] W w') (me:Int) (hc1:(Vi.vwC v)[3+k*2+1]?=some (.int .i64 me)) (he:decide (e=0)=true) (hp:decide (l.ep=me)=false),Calls Tryz.prog 51 #[P0 r,Qd (Ar.Qf J),Qd (Vi.vwC v),.int .i64 k] w fun x w'=>x= .returned (.bool false)∧Kept [] w w')∧(∀(r:Nat) (J:Ar.Job) (v:Vi.Vw) (k:Nat) (w:World) (hk8:k<8) (l:Le.Le) (e:Int) (hL:∀W,Kept [] w W→Calls Tryz.prog 42 #[P0 r,Qd (Ar.Qf J),.int .i64 k] W fun x w'=>x= .returned (.tuple #[Qd (Le.Le.C l),.int .i64 e])∧Kept [] W w') (me:Int) (hc1:(Vi.vwC v)[3+k*2+1]?=some (.int .i64 me)) (he:decide (e=0)=true) (hp:decide (l.ep=me)=true) (bb:Bool) (hbb:decide (v.nu≤l.re)=bb),Calls Tryz.prog 51 #[P0 r,Qd (Ar.Qf J),Qd (Vi.vwC v),.int .i64 k] w fun x w'=>x= .returned (.bool bb)∧Kept [] w w'):=by
 refine⟨fun r J v k w l e hL he=> ?_,fun r J v k w hk8 l e hL me hc1 he hp=> ?_,fun r J v k w hk8 l e hL me hc1 he hp bb hbb=> ?_⟩;have PL:=hide hL;have HE:=hide he;clear hL he
 rotate_left
 have PL:=hide hL;have HK8:=hide hk8;have HE:=hide he;have HC1:=hide hc1;have HP:=hide hp;clear hc1 hp;clear hL he hk8
 rotate_left
 have PL:=hide hL;have HK8:=hide hk8;have HE:=hide he;have HC1:=hide hc1;have HP:=hide hp;clear hc1 hp;have HBB:=hide hbb;clear hbb;clear hL he hk8
 rotate_left
 all_goals
   go_enter Tryz.func51,Tryz.ntmps51
   have M:Hid (Mm [] w w []):=hide Mm.init;go_wp2_with (first |(refine Qp rfl (.tmp 1) rfl (Ar.Qf J) rfl ?_;intro W1 b1 e1 B1 K1;replace M:=hide ((Qa M).new e1 B1 K1);clear e1 B1 K1;refine Stp.go ?_))
   constructor
   go_wp2_with (first |(refine Qp rfl (.tmp 2) rfl (Vi.vwC v) rfl ?_;intro W2 b2 e2 B2 K2;replace M:=hide ((Qa M).new e2 B2 K2);clear e2 B2 K2;refine Stp.go ?_))
   constructor
   go_wp2_with (first |(refine Qg Zv rfl (.tmp 5) rfl b1 0 rfl (Ar.Qf J) rfl ((Qa M).at 0 _ rfl).range ?_;refine Stp.go ?_))
   constructor
   go_wp2_with (first |(go_at_call 42;refine(Qa PL _ (Qa M).kept).mono ?_;rintro e W3 ⟨rfl,K3⟩;replace M:=hide ((Qa M).step K3);clear K3;refine Stp.go ?_))
   constructor
   go_wp2_with (first |(refine QM Le.QC (Le.Le.C Le.le0) rfl Le.QT 9 rfl rfl rfl (.tmp 16) rfl rfl rfl (Le.Le.C l) rfl (Le.QV _) (by kernel_rfl) (by kernel_rfl) ?_;intro W4 b4 e4 B4 K4;replace M:=hide ((Qa M).new e4 B4 K4);clear e4 B4 K4;refine Stp.go ?_))
   constructor
   go_wp2_with fail
 · refine wp_region_any mixed (QW 20 rfl (by kernel_rfl) [some (.int .i64 e),some (.bool false),some (.bool false),none,none,none,none,none,none,none,none,some (.bool false),some (.bool false),none,none,none,none,none,some (.bool false),some (.bool false)] rfl (by kernel_rfl) (by kernel_rfl) ?_ ?_)
   · intro i o' hi hsk ho a' w2 hout hin hk2;replace hk2:Kept [] W4 w2:=⟨hk2.os,hk2.tape,hk2.output,hk2.size,hk2.block⟩
     match i,ho,hsk with
     | 0,ho,hsk=>
      obtain rfl:=Oj9 ho;exact wp_move (.tmp 10) rfl _ ((hout 10 (by kernel_rfl)).trans rfl) (tE rfl)
     | 1,ho,hsk=>
      obtain rfl:=Oj9 ho;have e0:a'.eval (.tmp 18)= .int .i64 e:=Qm (hin 0 18 (by kernel_rfl) (by kernel_rfl)) rfl;exact o_eql3 (.tmp 18) 0 rfl e false (Qa HE) e0 (tE rfl)
     | 2,ho,hsk=>
      obtain rfl:=Oj9 ho;have e0:a'.eval (.tmp 19)= .bool false:=Qm (hin 1 19 (by kernel_rfl) (by kernel_rfl)) rfl;exact wp_move (.tmp 19) rfl _ e0 (tE rfl)
     | 3,ho,hsk=>
      cases hsk
     | 4,ho,hsk=>
      cases hsk
     | 5,ho,hsk=>
      cases hsk
     | 6,ho,hsk=>
      cases hsk
     | 7,ho,hsk=>
      cases hsk
     | 8,ho,hsk=>
      cases hsk
     | 9,ho,hsk=>
      cases hsk
     | 10,ho,hsk=>
      cases hsk
     | 11,ho,hsk=>
      obtain rfl:=Oj9 ho;have e0:a'.eval (.tmp 20)= .bool false:=Qm (hin 2 20 (by kernel_rfl) (by kernel_rfl)) rfl;exact ZA (.tmp 20) (.tmp 28) rfl e0 (tE rfl)
     | 12,ho,hsk=>
      obtain rfl:=Oj9 ho;have e0:a'.eval (.tmp 29)= .bool false:=Qm (hin 11 29 (by kernel_rfl) (by kernel_rfl)) rfl;exact wp_move (.tmp 29) rfl _ e0 (tE rfl)
     | 13,ho,hsk=>
      cases hsk
     | 14,ho,hsk=>
      cases hsk
     | 15,ho,hsk=>
      cases hsk
     | 16,ho,hsk=>
      cases hsk
     | 17,ho,hsk=>
      cases hsk
     | 18,ho,hsk=>
      obtain rfl:=Oj9 ho;have e0:a'.eval (.tmp 30)= .bool false:=Qm (hin 12 30 (by kernel_rfl) (by kernel_rfl)) rfl;exact ZA (.tmp 30) (.tmp 35) rfl e0 (tE rfl)
     | 19,ho,hsk=>
      obtain rfl:=Oj9 ho;have e0:a'.eval (.tmp 36)= .bool false:=Qm (hin 18 36 (by kernel_rfl) (by kernel_rfl)) rfl;exact QI (.tmp 36) rfl _ e0 (tE rfl)
   intro w9 hk9;replace hk9:Kept [] W4 w9:=⟨hk9.os,hk9.tape,hk9.output,hk9.size,hk9.block⟩;simp only [valsQ,List.map_cons,List.map_nil,Option.getD_some,Option.getD_none,List.take_succ_cons,List.take_zero,Qz,Act.put,List.setIfInBounds_toArray,List.set_cons_succ,List.set_cons_zero];refine wpAny_done (by kernel_rfl) ?_ _;replace M:=hide ((Qa M).step hk9);clear hk9;go_wp2_with fail
   go_ret
   exact⟨rfl,(Qa M).kept⟩
 · refine wp_region_any mixed (QW 20 rfl (by kernel_rfl) [some (.int .i64 e),some (.bool true),some (.bool true),some (.pointer (some ⟨b4,0,none⟩)),some (.int .i64 l.ep),some (.int .i64 k),some (.pointer (some ⟨b2,3,none⟩)),some (.pointer (some ⟨b2,3+k*2,none⟩)),some (.pointer (some ⟨b2,3+k*2+1,none⟩)),some (.int .i64 me),some (.bool false),some (.bool false),some (.bool false),none,none,none,none,none,some (.bool false),some (.bool false)] rfl (by kernel_rfl) (by kernel_rfl) ?_ ?_)
   · intro i o' hi hsk ho a' w2 hout hin hk2;replace hk2:Kept [] W4 w2:=⟨hk2.os,hk2.tape,hk2.output,hk2.size,hk2.block⟩
     match i,ho,hsk with
     | 0,ho,hsk=>
      obtain rfl:=Oj9 ho;exact wp_move (.tmp 10) rfl _ ((hout 10 (by kernel_rfl)).trans rfl) (tE rfl)
     | 1,ho,hsk=>
      obtain rfl:=Oj9 ho;have e0:a'.eval (.tmp 18)= .int .i64 e:=Qm (hin 0 18 (by kernel_rfl) (by kernel_rfl)) rfl;exact o_eql3 (.tmp 18) 0 rfl e true (Qa HE) e0 (tE rfl)
     | 2,ho,hsk=>
      obtain rfl:=Oj9 ho;have e0:a'.eval (.tmp 19)= .bool true:=Qm (hin 1 19 (by kernel_rfl) (by kernel_rfl)) rfl;exact wp_move (.tmp 19) rfl _ e0 (tE rfl)
     | 3,ho,hsk=>
      obtain rfl:=Oj9 ho;exact o_fldL (.tmp 9) 0 (by omega) rfl b4 ((hout 9 (by kernel_rfl)).trans rfl) (tE rfl)
     | 4,ho,hsk=>
      obtain rfl:=Oj9 ho;have e0:a'.eval (.tmp 21)= .pointer (some ⟨b4,0,none⟩):=Qm (hin 3 21 (by kernel_rfl) (by kernel_rfl)) rfl;exact Za (.tmp 21) rfl _ _ e0 (Qb (((Qa M).step hk2).at 2 _ rfl) 0 _ rfl) (tE rfl)
     | 5,ho,hsk=>
      obtain rfl:=Oj9 ho;exact wp_move (.tmp 3) rfl _ ((hout 3 (by kernel_rfl)).trans rfl) (tE rfl)
     | 6,ho,hsk=>
      obtain rfl:=Oj9 ho;exact Vi.ZE (.tmp 6) rfl b2 ((hout 6 (by kernel_rfl)).trans rfl) (tE rfl)
     | 7,ho,hsk=>
      obtain rfl:=Oj9 ho;have e0:a'.eval (.tmp 24)= .pointer (some ⟨b2,3,none⟩):=Qm (hin 6 24 (by kernel_rfl) (by kernel_rfl)) rfl;have e1:a'.eval (.tmp 23)= .int .i64 k:=Qm (hin 5 23 (by kernel_rfl) (by kernel_rfl)) rfl;exact Vi.o_idx24 (.tmp 24) (.tmp 23) rfl b2 k (Qa HK8) e0 e1 (tE rfl)
     | 8,ho,hsk=>
      obtain rfl:=Oj9 ho;have e0:a'.eval (.tmp 25)= .pointer (some ⟨b2,3+k*2,none⟩):=Qm (hin 7 25 (by kernel_rfl) (by kernel_rfl)) rfl;exact o_fldM1 (.tmp 25) rfl b2 (3+k*2) e0 (tE rfl)
     | 9,ho,hsk=>
      obtain rfl:=Oj9 ho;have e0:a'.eval (.tmp 26)= .pointer (some ⟨b2,3+k*2+1,none⟩):=Qm (hin 8 26 (by kernel_rfl) (by kernel_rfl)) rfl;exact Za (.tmp 26) rfl _ _ e0 (Qb (((Qa M).step hk2).at 1 _ rfl) _ _ (Qa HC1)) (tE rfl)
     | 10,ho,hsk=>
      obtain rfl:=Oj9 ho;have e0:a'.eval (.tmp 22)= .int .i64 l.ep:=Qm (hin 4 22 (by kernel_rfl) (by kernel_rfl)) rfl;have e1:a'.eval (.tmp 27)= .int .i64 me:=Qm (hin 9 27 (by kernel_rfl) (by kernel_rfl)) rfl;exact o_eql2 (.tmp 22) (.tmp 27) rfl _ _ false (Qa HP) e0 e1 (tE rfl)
     | 11,ho,hsk=>
      obtain rfl:=Oj9 ho;have e0:a'.eval (.tmp 20)= .bool true:=Qm (hin 2 20 (by kernel_rfl) (by kernel_rfl)) rfl;have e1:a'.eval (.tmp 28)= .bool false:=Qm (hin 10 28 (by kernel_rfl) (by kernel_rfl)) rfl;exact ZB (.tmp 20) (.tmp 28) rfl false e0 e1 (tE rfl)
     | 12,ho,hsk=>
      obtain rfl:=Oj9 ho;have e0:a'.eval (.tmp 29)= .bool false:=Qm (hin 11 29 (by kernel_rfl) (by kernel_rfl)) rfl;exact wp_move (.tmp 29) rfl _ e0 (tE rfl)
     | 13,ho,hsk=>
      cases hsk
     | 14,ho,hsk=>
      cases hsk
     | 15,ho,hsk=>
      cases hsk
     | 16,ho,hsk=>
      cases hsk
     | 17,ho,hsk=>
      cases hsk
     | 18,ho,hsk=>
      obtain rfl:=Oj9 ho;have e0:a'.eval (.tmp 30)= .bool false:=Qm (hin 12 30 (by kernel_rfl) (by kernel_rfl)) rfl;exact ZA (.tmp 30) (.tmp 35) rfl e0 (tE rfl)
     | 19,ho,hsk=>
      obtain rfl:=Oj9 ho;have e0:a'.eval (.tmp 36)= .bool false:=Qm (hin 18 36 (by kernel_rfl) (by kernel_rfl)) rfl;exact QI (.tmp 36) rfl _ e0 (tE rfl)
   intro w9 hk9;replace hk9:Kept [] W4 w9:=⟨hk9.os,hk9.tape,hk9.output,hk9.size,hk9.block⟩;simp only [valsQ,List.map_cons,List.map_nil,Option.getD_some,Option.getD_none,List.take_succ_cons,List.take_zero,Qz,Act.put,List.setIfInBounds_toArray,List.set_cons_succ,List.set_cons_zero];refine wpAny_done (by kernel_rfl) ?_ _;replace M:=hide ((Qa M).step hk9);clear hk9;go_wp2_with fail
   go_ret
   exact⟨rfl,(Qa M).kept⟩
 refine wp_region_any mixed (QW 20 rfl (by kernel_rfl) [some (.int .i64 e),some (.bool true),some (.bool true),some (.pointer (some ⟨b4,0,none⟩)),some (.int .i64 l.ep),some (.int .i64 k),some (.pointer (some ⟨b2,3,none⟩)),some (.pointer (some ⟨b2,3+k*2,none⟩)),some (.pointer (some ⟨b2,3+k*2+1,none⟩)),some (.int .i64 me),some (.bool true),some (.bool true),some (.bool true),some (.pointer (some ⟨b4,2,none⟩)),some (.int .i64 l.re),some (.pointer (some ⟨b2,0,none⟩)),some (.int .i64 v.nu),some (.bool bb),some (.bool bb),some (.bool bb)] rfl (by kernel_rfl) (by kernel_rfl) ?_ ?_)
 · intro i o' hi hsk ho a' w2 hout hin hk2;replace hk2:Kept [] W4 w2:=⟨hk2.os,hk2.tape,hk2.output,hk2.size,hk2.block⟩
   match i,ho,hsk with
   | 0,ho,hsk=>
     obtain rfl:=Oj9 ho;exact wp_move (.tmp 10) rfl _ ((hout 10 (by kernel_rfl)).trans rfl) (tE rfl)
   | 1,ho,hsk=>
     obtain rfl:=Oj9 ho;have e0:a'.eval (.tmp 18)= .int .i64 e:=Qm (hin 0 18 (by kernel_rfl) (by kernel_rfl)) rfl;exact o_eql3 (.tmp 18) 0 rfl e true (Qa HE) e0 (tE rfl)
   | 2,ho,hsk=>
     obtain rfl:=Oj9 ho;have e0:a'.eval (.tmp 19)= .bool true:=Qm (hin 1 19 (by kernel_rfl) (by kernel_rfl)) rfl;exact wp_move (.tmp 19) rfl _ e0 (tE rfl)
   | 3,ho,hsk=>
     obtain rfl:=Oj9 ho;exact o_fldL (.tmp 9) 0 (by omega) rfl b4 ((hout 9 (by kernel_rfl)).trans rfl) (tE rfl)
   | 4,ho,hsk=>
     obtain rfl:=Oj9 ho;have e0:a'.eval (.tmp 21)= .pointer (some ⟨b4,0,none⟩):=Qm (hin 3 21 (by kernel_rfl) (by kernel_rfl)) rfl;exact Za (.tmp 21) rfl _ _ e0 (Qb (((Qa M).step hk2).at 2 _ rfl) 0 _ rfl) (tE rfl)
   | 5,ho,hsk=>
     obtain rfl:=Oj9 ho;exact wp_move (.tmp 3) rfl _ ((hout 3 (by kernel_rfl)).trans rfl) (tE rfl)
   | 6,ho,hsk=>
     obtain rfl:=Oj9 ho;exact Vi.ZE (.tmp 6) rfl b2 ((hout 6 (by kernel_rfl)).trans rfl) (tE rfl)
   | 7,ho,hsk=>
     obtain rfl:=Oj9 ho;have e0:a'.eval (.tmp 24)= .pointer (some ⟨b2,3,none⟩):=Qm (hin 6 24 (by kernel_rfl) (by kernel_rfl)) rfl;have e1:a'.eval (.tmp 23)= .int .i64 k:=Qm (hin 5 23 (by kernel_rfl) (by kernel_rfl)) rfl;exact Vi.o_idx24 (.tmp 24) (.tmp 23) rfl b2 k (Qa HK8) e0 e1 (tE rfl)
   | 8,ho,hsk=>
     obtain rfl:=Oj9 ho;have e0:a'.eval (.tmp 25)= .pointer (some ⟨b2,3+k*2,none⟩):=Qm (hin 7 25 (by kernel_rfl) (by kernel_rfl)) rfl;exact o_fldM1 (.tmp 25) rfl b2 (3+k*2) e0 (tE rfl)
   | 9,ho,hsk=>
     obtain rfl:=Oj9 ho;have e0:a'.eval (.tmp 26)= .pointer (some ⟨b2,3+k*2+1,none⟩):=Qm (hin 8 26 (by kernel_rfl) (by kernel_rfl)) rfl;exact Za (.tmp 26) rfl _ _ e0 (Qb (((Qa M).step hk2).at 1 _ rfl) _ _ (Qa HC1)) (tE rfl)
   | 10,ho,hsk=>
     obtain rfl:=Oj9 ho;have e0:a'.eval (.tmp 22)= .int .i64 l.ep:=Qm (hin 4 22 (by kernel_rfl) (by kernel_rfl)) rfl;have e1:a'.eval (.tmp 27)= .int .i64 me:=Qm (hin 9 27 (by kernel_rfl) (by kernel_rfl)) rfl;exact o_eql2 (.tmp 22) (.tmp 27) rfl _ _ true (Qa HP) e0 e1 (tE rfl)
   | 11,ho,hsk=>
     obtain rfl:=Oj9 ho;have e0:a'.eval (.tmp 20)= .bool true:=Qm (hin 2 20 (by kernel_rfl) (by kernel_rfl)) rfl;have e1:a'.eval (.tmp 28)= .bool true:=Qm (hin 10 28 (by kernel_rfl) (by kernel_rfl)) rfl;exact ZB (.tmp 20) (.tmp 28) rfl true e0 e1 (tE rfl)
   | 12,ho,hsk=>
     obtain rfl:=Oj9 ho;have e0:a'.eval (.tmp 29)= .bool true:=Qm (hin 11 29 (by kernel_rfl) (by kernel_rfl)) rfl;exact wp_move (.tmp 29) rfl _ e0 (tE rfl)
   | 13,ho,hsk=>
     obtain rfl:=Oj9 ho;exact o_fldL (.tmp 9) 2 (by omega) rfl b4 ((hout 9 (by kernel_rfl)).trans rfl) (tE rfl)
   | 14,ho,hsk=>
     obtain rfl:=Oj9 ho;have e0:a'.eval (.tmp 31)= .pointer (some ⟨b4,2,none⟩):=Qm (hin 13 31 (by kernel_rfl) (by kernel_rfl)) rfl;exact Za (.tmp 31) rfl _ _ e0 (Qb (((Qa M).step hk2).at 2 _ rfl) 2 _ rfl) (tE rfl)
   | 15,ho,hsk=>
     obtain rfl:=Oj9 ho;exact Vi.o_fld26a (.tmp 6) rfl b2 ((hout 6 (by kernel_rfl)).trans rfl) (tE rfl)
   | 16,ho,hsk=>
     obtain rfl:=Oj9 ho;have e0:a'.eval (.tmp 33)= .pointer (some ⟨b2,0,none⟩):=Qm (hin 15 33 (by kernel_rfl) (by kernel_rfl)) rfl;exact Za (.tmp 33) rfl _ _ e0 (Qb (((Qa M).step hk2).at 1 _ rfl) 0 _ rfl) (tE rfl)
   | 17,ho,hsk=>
     obtain rfl:=Oj9 ho;have e0:a'.eval (.tmp 32)= .int .i64 l.re:=Qm (hin 14 32 (by kernel_rfl) (by kernel_rfl)) rfl;have e1:a'.eval (.tmp 34)= .int .i64 v.nu:=Qm (hin 16 34 (by kernel_rfl) (by kernel_rfl)) rfl;exact o_geq2 (.tmp 32) (.tmp 34) rfl _ _ bb (Qa HBB) e0 e1 (tE rfl)
   | 18,ho,hsk=>
     obtain rfl:=Oj9 ho;have e0:a'.eval (.tmp 30)= .bool true:=Qm (hin 12 30 (by kernel_rfl) (by kernel_rfl)) rfl;have e1:a'.eval (.tmp 35)= .bool bb:=Qm (hin 17 35 (by kernel_rfl) (by kernel_rfl)) rfl;exact ZB (.tmp 30) (.tmp 35) rfl bb e0 e1 (tE rfl)
   | 19,ho,hsk=>
     obtain rfl:=Oj9 ho;have e0:a'.eval (.tmp 36)= .bool bb:=Qm (hin 18 36 (by kernel_rfl) (by kernel_rfl)) rfl;exact QI (.tmp 36) rfl _ e0 (tE rfl)
 intro w9 hk9;replace hk9:Kept [] W4 w9:=⟨hk9.os,hk9.tape,hk9.output,hk9.size,hk9.block⟩;simp only [valsQ,List.map_cons,List.map_nil,Option.getD_some,List.take_succ_cons,List.take_zero,Qz,Act.put,List.setIfInBounds_toArray,List.set_cons_succ,List.set_cons_zero];refine wpAny_done (by kernel_rfl) ?_ _;replace M:=hide ((Qa M).step hk9);clear hk9;go_wp2_with fail
 go_ret
 exact⟨rfl,(Qa M).kept⟩
theorem rready51 (r sg eg:Nat) (D:Dv.Dev) (J:Ar.Job) (v:Vi.Vw) (k:Nat) (w:World) (h:Dv.Rv w r sg eg D) (hJ:J.n≤8) (hv:v.ms.length=8) (hk:k<8):Calls Tryz.prog 51 #[P0 r,Qd (Ar.Qf J),Qd (Vi.vwC v),.int .i64 k] w fun x w'=>x= .returned (.bool (rready D J v k))∧Kept [] w w':=by
 have hL:=fun W (hk:Kept [] w W)=>rlease42 r sg eg D J k W (h.kept hk (by simp) (by simp) (by simp)) hJ;unfold rready;obtain⟨m,hm⟩:∃m,v.ms[k]?=some m:=⟨_,List.getElem?_eq_getElem (by omega)⟩;have hmm:v.mem (k:Int)=m:=by unfold Vi.Vw.mem;rw [Int.toNat_natCast,List.getD_eq_getElem?_getD,hm];rfl
 have hc:=(Vi.vwC_at hm).2;rw [Nat.mul_comm] at hc;rw [hmm];by_cases he:(rlease D J k).2=0
 · rw [decide_eq_true he,Bool.true_and];by_cases hp:(rlease D J k).1.ep=m.2
   · rw [decide_eq_true hp,Bool.true_and];exact rready_x_F.2.2 r J v k w hk _ _ hL m.2 hc (decide_eq_true he) (decide_eq_true hp) _ rfl
   · rw [decide_eq_false hp,Bool.false_and];exact rready_x_F.2.1 r J v k w hk _ _ hL m.2 hc (decide_eq_true he) (decide_eq_false hp)
 · rw [decide_eq_false he,Bool.false_and];exact rready_x_F.1 r J v k w _ _ hL (decide_eq_false he)
def rin (v:Vi.Vw) (j:Nat):List Nat:=(List.range j).filter (fun i=>(v.mem (i:Int)).1)
theorem rin_succ (v:Vi.Vw) (j:Nat):rin v (j+1)=rin v j++(if (v.mem (j:Int)).1 then [j] else []):=by
 unfold rin;rw [List.range_succ,List.filter_append];simp only [List.filter_cons,List.filter_nil]
theorem rin_len (v:Vi.Vw) (j:Nat):(rin v j).length≤j:=by
 unfold rin;exact Nat.le_trans (List.length_filter_le _ _) (by simp)
def rall (D:Dv.Dev) (J:Ar.Job) (v:Vi.Vw):Bool:=decide (0<(rin v 8).length)&&(rin v 8).all (fun i=>rready D J v i)
theorem rall52 (r sg eg:Nat) (D:Dv.Dev) (J:Ar.Job) (v:Vi.Vw) (w:World) (h:Dv.Rv w r sg eg D) (hJ:J.n≤8) (hv:v.ms.length=8):Calls Tryz.prog 52 #[P0 r,Qd (Ar.Qf J),Qd (Vi.vwC v)] w fun x w'=>x= .returned (.bool (rall D J v))∧Kept [] w w':=by
 have PL:=hide (fun k (hk:k<8) W (hk2:Kept [] w W)=>rready51 r sg eg D J v k W (h.kept hk2 (by simp) (by simp) (by simp)) hJ hv hk);have HVL:Hid ((Vi.vwC v).length=19):=Vi.Qk hv;have HV8:=hide hv;obtain⟨RB,hRB⟩:∃RB,RB=rall D J v:=⟨_,rfl⟩;have HRB:=hide hRB;rw [← hRB];clear h hJ hRB hv;go_enter Tryz.func52,Tryz.ntmps52
 have M:Hid (Mm [] w w []):=hide Mm.init;go_wp2_with (first |(refine Qp rfl (.tmp 1) rfl (Ar.Qf J) rfl ?_;intro W1 b1 e1 B1 K1;replace M:=hide ((Qa M).new e1 B1 K1);clear e1 B1 K1;refine Stp.go ?_))
 constructor
 go_wp2_with (first |(refine Qp rfl (.tmp 2) rfl (Vi.vwC v) rfl ?_;intro W2 b2 e2 B2 K2;replace M:=hide ((Qa M).new e2 B2 K2);clear e2 B2 K2;refine Stp.go ?_))
 constructor
 go_wp2_with fail
 go_loopw [7,8] (fun xk xn wr=>∃j:Nat,j≤8∧xk= .int .i64 ((rin v j).length:Nat)∧xn= .int .i64 j∧Hid ((rin v j).all (fun i=>rready D J v i)=true)∧Hid (Mm [] w wr [(b1,23,Ar.Qf J),(b2,29,Vi.vwC v)])) (fun _ i _=>(8-intOf i).toNat)
 case atStart=>exact ⟨0,by omega,rfl,rfl,rfl,M⟩
 case round=>
  clear M;obtain⟨j,hj,rfl,rfl,HA,M⟩:=hrel;have hln:=rin_len v j;by_cases hlt:j<8
  · have hd:decide ((j:Int)<8)=true:=by simp;omega
    have hj8:(j:Int)<8:=by omega
    have HLT:=hide hlt;obtain⟨m,hm2⟩:∃m,v.ms[j]?=some m:=⟨_,List.getElem?_eq_getElem (by rw [Qa HV8];omega)⟩;have hmm:v.mem (j:Int)=m:=by unfold Vi.Vw.mem;rw [Int.toNat_natCast,List.getD_eq_getElem?_getD,hm2];rfl
    have HS:=hide (rin_succ v j);rw [hmm] at HS;obtain⟨x0,x1⟩:=Vi.vwC_at hm2;rw [Nat.mul_comm] at x0;have hc0:=Qb ((Qa M).at 1 _ rfl) _ _ x0;obtain⟨mi,me⟩:=m;clear x0 x1 hm2 hmm;obtain⟨c,hc⟩:∃c,c=(rin v j).length:=⟨_,rfl⟩;have HC:=hide hc;rw [← hc] at hln⊢;have hcI:(c:Int)≤8:=by omega
    clear hc;cases mi with
    | false=>
      have HS2:Hid (rin v (j+1)=rin v j):=by have h9:=Qa HS;simp at h9;exact h9
      go_wp2_with fail
      go_roundw
      case rel=>exact ⟨j+1,by omega,by rw [Qa HS2,Qa HC],by first | rfl | go_num,by rw [Qa HS2];exact HA,M⟩
      case measure=>simp [intOf];omega
    | true=>
      have HS2:Hid (rin v (j+1)=rin v j++ [j]):=by have h9:=Qa HS;simp at h9;exact h9
      obtain⟨rb,hrb⟩:∃rb,rb=rready D J v j:=⟨_,rfl⟩;have PJ:=hide (Qa PL j hlt);rw [← hrb] at PJ;have HRJ:=hide hrb;clear hrb;cases rb with
      | true=>
       go_wp2_with (first |(refine Qg Zv rfl (.tmp 4) rfl b1 0 rfl (Ar.Qf J) rfl ((Qa M).at 0 _ rfl).range ?_;refine Stp.go ?_))
       constructor
       go_wp2_with (first |(refine Qg Vi.Qn rfl (.tmp 5) rfl b2 0 rfl (Vi.vwC v) (Qa HVL) ((Qa M).at 1 _ rfl).range ?_;refine Stp.go ?_))
       constructor
       go_wp2_with (first |(go_at_call 51;refine(Qa PJ _ (Qa M).kept).mono ?_;rintro e W31 ⟨rfl,K31⟩;replace M:=hide ((Qa M).step K31);clear K31;refine Stp.go ?_))
       constructor
       go_wp2_with fail
       go_roundw
       case rel=>exact ⟨j+1,by omega,by rw [Qa HS2,Qa HC];simp,by first | rfl | go_num,by rw [Qa HS2];show _=_;rw [List.all_append,Qa HA];simp [← Qa HRJ],M⟩
       case measure=>simp [intOf];omega
      | false=>
       go_wp2_with (first |(refine Qg Zv rfl (.tmp 4) rfl b1 0 rfl (Ar.Qf J) rfl ((Qa M).at 0 _ rfl).range ?_;refine Stp.go ?_))
       constructor
       go_wp2_with (first |(refine Qg Vi.Qn rfl (.tmp 5) rfl b2 0 rfl (Vi.vwC v) (Qa HVL) ((Qa M).at 1 _ rfl).range ?_;refine Stp.go ?_))
       constructor
       go_wp2_with (first |(go_at_call 51;refine(Qa PJ _ (Qa M).kept).mono ?_;rintro e W31 ⟨rfl,K31⟩;replace M:=hide ((Qa M).step K31);clear K31;refine Stp.go ?_))
       constructor
       go_wp2_with fail
       go_ret
       refine⟨?_,(Qa M).kept⟩;have hF:rall D J v=false:=by
        unfold rall;rw [Bool.and_eq_false_iff];right;rw [List.all_eq_false];refine⟨j,?_,by rw [← Qa HRJ];simp⟩;unfold rin;rw [List.mem_filter];refine⟨List.mem_range.2 (Qa HLT),?_⟩;have h9:j∈rin v (j+1):=by rw [Qa HS2];simp
        unfold rin at h9;exact(List.mem_filter.1 h9).2
       rw [Qa HRB,hF];rfl
  · obtain rfl:j=8:=by omega
    have HF:Hid (rall D J v=decide (0<(rin v 8).length)):=by show _=_;unfold rall;rw [Qa HA,Bool.and_true]
    obtain⟨c,hc⟩:∃c,c=(rin v 8).length:=⟨_,rfl⟩;rw [← hc] at HF hln⊢;have hcI:(c:Int)≤8:=by omega
    clear hc;by_cases hc0:0<c
    · have hd9:decide ((0:Int)<(c:Int))=true:=by simp;omega
      go_wp2_with fail
      go_ret
      exact⟨by rw [Qa HRB,Qa HF,decide_eq_true hc0];rfl,(Qa M).kept⟩
    · have hd9:decide ((0:Int)<(c:Int))=false:=by simp;omega
      go_wp2_with fail
      go_ret
      exact⟨by rw [Qa HRB,Qa HF,decide_eq_false hc0];rfl,(Qa M).kept⟩
end Go.Proofs.YtcfflbafclmheaaGreatDoor
