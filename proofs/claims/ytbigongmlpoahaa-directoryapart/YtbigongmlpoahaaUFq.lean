import Derived.Test.YtbigongmlpoahaaUFp
namespace Go.Proofs.Ytbigongmlpoahaa
set_option maxHeartbeats 4000000
set_option maxRecDepth 100000
set_option linter.unusedSimpArgs false
open Go.RowKit
structure Bo where
 ex:Int
 ow:Int
 sh:List Int
 pa:List Int
 ops:Nat→Int
 ln:List Wi
 hn:Nat
 hk:Int
 bz:Bool
 op:Int
def Bo.C (B:Bo) (x y z:Value):List Value:= [.int .i64 B.ex,.int .i64 B.ow,x,y,.int .i64 (B.ops 0),.int .i64 (B.ops 1),.int .i64 (B.ops 2),.int .i64 (B.ops 3),.int .i64 (B.ops 4),.int .i64 (B.ops 5),.int .i64 (B.ops 6),.int .i64 (B.ops 7),z,.int .i64 B.hn,.int .i64 B.hk,.bool B.bz,.int .i64 B.op]
def bz43:List Value:=(Bo.mk 0 0 [] [] ze8 [] 0 0 false 0).C (.slice none 0 0) (.slice none 0 0) (.slice none 0 0)
theorem zero43 (w:World):(Instr.alloc 40 true (.tuple #[])).run Try.prog w= .ok (P0 w.heap.size) (w.alloc (.cells bz43.toArray 40)):=by kernel_rfl
theorem build43 (w:World) (B:Bo) (a1 a2 a3:Option Addr) (n1 n2 n3 c1 c2 c3:Nat):(Instr.build 40 #[(0,.int .i64 B.ex),(1,.int .i64 B.ow),(2,.slice a1 n1 c1),(3,.slice a2 n2 c2),(4,aggV (i8 B.ops)),(5,.slice a3 n3 c3),(6,aggV (Wi.C ⟨B.hn,B.hk⟩)),(7,.bool B.bz),(8,.int .i64 B.op)]).run Try.prog w= .ok (aggV (B.C (.slice a1 n1 c1) (.slice a2 n2 c2) (.slice a3 n3 c3))) w:=by kernel_rfl
structure Bk (w W:World) (B:Bo) (x y z:Value):Prop where
 sh:New w W 3 1 x B.sh.length (inC B.sh)
 pa:New w W 3 1 y B.pa.length (inC B.pa)
 ln:New w W 38 2 z B.ln.length (wsC B.ln)
theorem Bk.kept {w W W':World} {B:Bo} {x y z:Value} {X:List Nat} (h:Bk w W B x y z) (hk:Kept X W W') (hX:∀k,w.heap.size≤k→k∉X):Bk w W' B x y z:=⟨h.sh.kept hk hX,h.pa.kept hk hX,h.ln.kept hk hX⟩
theorem Bk.elder {w w1 W:World} {B:Bo} {x y z:Value} (h:Bk w1 W B x y z) (hk:w.heap.size≤w1.heap.size):Bk w W B x y z:=⟨h.sh.elder hk,h.pa.elder hk,h.ln.elder hk⟩
theorem BoC_one {w W:World} {B:Bo} {x y z:Value} (h:Bk w W B x y z):∀v∈B.C x y z,v.oneCell'=true:=by
 have h1:=h.sh.row.one.1
 have h2:=h.pa.row.one.1
 have h3:=h.ln.row.one.1
 intro v hv
 simp only [Bo.C,List.mem_cons,List.mem_nil_iff,or_false] at hv
 rcases hv with rfl | rfl | rfl | rfl | rfl | rfl | rfl | rfl | rfl | rfl | rfl | rfl | rfl | rfl | rfl | rfl | rfl <;> first | rfl | assumption
structure SBk (w:World) (b2:Nat) (B:Bo) (k1 k2 k3 kb ks:Nat) (d:Nat→Bool) (vs:Nat→Value) (W:World):Prop where
 kept:Kept [] w W
 r1:d k1=true→New w W 3 1 (vs k1) B.sh.length (inC B.sh)
 r2:d k2=true→New w W 3 1 (vs k2) B.pa.length (inC B.pa)
 r3:d k3=true→New w W 38 2 (vs k3) B.ln.length (wsC B.ln)
 bd:d kb=true→vs kb=aggV (B.C (vs k1) (vs k2) (vs k3))
 cl:d kb=true→d k1=true∧d k2=true∧d k3=true
 z:d ks=false→Blk W b2 40 bz43
 st:d ks=true→Blk W b2 40 (B.C (vs k1) (vs k2) (vs k3))
theorem SBk.loc {w:World} {b2:Nat} {B:Bo} {k1 k2 k3 kb ks:Nat} :∀d d' vs vs' W,(∀i∈ [k1,k2,k3,kb,ks],d i=d' i∧vs i=vs' i)→SBk w b2 B k1 k2 k3 kb ks d vs W→SBk w b2 B k1 k2 k3 kb ks d' vs' W:=by
 intro d d' vs vs' W H h
 obtain⟨a1,c1⟩:=H k1 (by simp)
 obtain⟨a2,c2⟩:=H k2 (by simp)
 obtain⟨a3,c3⟩:=H k3 (by simp)
 obtain⟨a4,c4⟩:=H kb (by simp)
 obtain⟨a5,c5⟩:=H ks (by simp)
 exact⟨h.kept,fun e=>by rw [← c1];exact h.r1 (a1.trans e),fun e=>by rw [← c2];exact h.r2 (a2.trans e),fun e=>by rw [← c3];exact h.r3 (a3.trans e),fun e=>by rw [← c1,← c2,← c3,← c4];exact h.bd (a4.trans e),fun e=>by rw [← a1,← a2,← a3];exact h.cl (a4.trans e),fun e=>h.z (a5.trans e),fun e=>by rw [← c1,← c2,← c3];exact h.st (a5.trans e)⟩
theorem SBk.next {w W W':World} {b2:Nat} {B:Bo} {k1 k2 k3 kb ks:Nat} {d:Nat→Bool} {vs:Nat→Value} (h:SBk w b2 B k1 k2 k3 kb ks d vs W) (hk:Kept [] W W') (j:Nat) (v:Value) (hdis: [k1,k2,k3,kb,ks].Nodup)
   (n1:j=k1→New w W' 3 1 v B.sh.length (inC B.sh)) (n2:j=k2→New w W' 3 1 v B.pa.length (inC B.pa)) (n3:j=k3→New w W' 38 2 v B.ln.length (wsC B.ln)) (nb:j=kb→v=aggV (B.C (vs k1) (vs k2) (vs k3))∧d k1=true∧d k2=true∧d k3=true) (ns:j≠ks)
   (late:(j=k1∨j=k2∨j=k3)→d kb=false∧d ks=false):SBk w b2 B k1 k2 k3 kb ks (fun i=>if i=j then true else d i) (fun i=>if i=j then v else vs i) W':=by
 simp only [List.nodup_cons,List.mem_cons,List.mem_nil_iff,or_false,not_or,List.nodup_nil,and_true,not_false_eq_true] at hdis
 obtain⟨⟨d12,d13,d14,d15⟩,⟨d23,d24,d25⟩,⟨d34,d35⟩,d45⟩:=hdis
 have same:¬(j=k1∨j=k2∨j=k3)→((if k1=j then v else vs k1)=vs k1∧(if k2=j then v else vs k2)=vs k2∧(if k3=j then v else vs k3)=vs k3):=by
   intro hn
   rw [if_neg (fun e=>hn (.inl e.symm)),if_neg (fun e=>hn (.inr (.inl e.symm))),if_neg (fun e=>hn (.inr (.inr e.symm)))]
   exact⟨rfl,rfl,rfl⟩
 refine⟨h.kept.trans hk,?_,?_,?_,?_,?_,?_,?_⟩
 · intro e
   by_cases hj:k1=j
   · simp only [hj,if_true];exact n1 hj.symm
   · simp only [if_neg hj] at e ⊢;exact(h.r1 e).kept hk (by simp)
 · intro e
   by_cases hj:k2=j
   · simp only [hj,if_true];exact n2 hj.symm
   · simp only [if_neg hj] at e ⊢;exact(h.r2 e).kept hk (by simp)
 · intro e
   by_cases hj:k3=j
   · simp only [hj,if_true];exact n3 hj.symm
   · simp only [if_neg hj] at e ⊢;exact(h.r3 e).kept hk (by simp)
 · intro e
   by_cases hj:kb=j
   · obtain⟨e1,e2,e3⟩:=same (by rintro (h9 | h9 | h9) <;> omega)
     simp only [e1,e2,e3]
     rw [if_pos hj];exact(nb hj.symm).1
   · simp only [if_neg hj] at e⊢
     obtain⟨e1,e2,e3⟩:=same (fun h9=>by rw [(late h9).1] at e;cases e)
     rw [e1,e2,e3];exact h.bd e
 · intro e
   have h3:d k1=true∧d k2=true∧d k3=true:=by
     by_cases hj:kb=j
     · exact(nb hj.symm).2
     · simp only [if_neg hj] at e;exact h.cl e
   refine⟨?_,?_,?_⟩ <;> split
   · rfl
   · exact h3.1
   · rfl
   · exact h3.2.1
   · rfl
   · exact h3.2.2
 · intro e
   simp only [if_neg (fun e=>ns e.symm:¬ks=j)] at e
   exact(h.z e).kept hk (by simp)
 · intro e
   simp only [if_neg (fun e=>ns e.symm:¬ks=j)] at e
   obtain⟨e1,e2,e3⟩:=same (fun h9=>by rw [(late h9).2] at e;cases e)
   simp only [e1,e2,e3]
   exact(h.st e).kept hk (by simp)
theorem SBk.store {w W W':World} {b2:Nat} {B:Bo} {k1 k2 k3 kb ks:Nat} {d:Nat→Bool} {vs:Nat→Value} (h:SBk w b2 B k1 k2 k3 kb ks d vs W) (hk:Kept [b2] W W') (v:Value) (hdis: [k1,k2,k3,kb,ks].Nodup) (hb:Blk W' b2 40 (B.C (vs k1) (vs k2) (vs k3))) (hw:w.heap.size≤b2) (hB:∃T vs,Blk W b2 T vs∧T≠3∧T≠38):SBk w b2 B k1 k2 k3 kb ks (fun i=>if i=ks then true else d i) (fun i=>if i=ks then v else vs i) W':=by
 simp only [List.nodup_cons,List.mem_cons,List.mem_nil_iff,or_false,not_or,List.nodup_nil,and_true,not_false_eq_true] at hdis
 obtain⟨⟨d12,d13,d14,d15⟩,⟨d23,d24,d25⟩,⟨d34,d35⟩,d45⟩:=hdis
 obtain⟨T,us,hT,t3,t41⟩:=hB
 refine⟨h.kept.fresh hk (fun i hi hl=>by simp at hi;omega),?_,?_,?_,?_,?_,fun e=>by simp at e,?_⟩
 · intro e
   simp only [if_neg d15] at e⊢
   exact⟨(h.r1 e).row.kept hk ((h.r1 e).row.ne hT t3),(h.r1 e).own⟩
 · intro e
   simp only [if_neg d25] at e⊢
   exact⟨(h.r2 e).row.kept hk ((h.r2 e).row.ne hT t3),(h.r2 e).own⟩
 · intro e
   simp only [if_neg d35] at e⊢
   exact⟨(h.r3 e).row.kept hk ((h.r3 e).row.ne hT t41),(h.r3 e).own⟩
 · intro e
   simp only [if_neg d15,if_neg d25,if_neg d35,if_neg d45] at e⊢
   exact h.bd e
 · intro e
   simp only [if_neg d15,if_neg d25,if_neg d35,if_neg d45] at e⊢
   exact h.cl e
 · intro _
   simp only [if_neg d15,if_neg d25,if_neg d35]
   exact hb
section
variable {o:Oper} {a:Act} {w:World} {K:Act→World→Prop} {Q:Exit→Act→World→Prop}
theorem o_bld43 (x0 x1 x2 x3 x4 x5 x6 x7 x8:Operand) (ho:o.op= .build 40 #[(0,x0),(1,x1),(2,x2),(3,x3),(4,x4),(5,x5),(6,x6),(7,x7),(8,x8)]) (B:Bo) (u v z:Value) {w0 W0:World} (hB:Bk w0 W0 B u v z) (h0:a.eval x0= .int .i64 B.ex) (h1:a.eval x1= .int .i64 B.ow) (h2:a.eval x2=u) (h3:a.eval x3=v) (h4:a.eval x4=aggV (i8 B.ops)) (h5:a.eval x5=z) (h6:a.eval x6=aggV (Wi.C ⟨B.hn,B.hk⟩)) (h7:a.eval x7= .bool B.bz) (h8:a.eval x8= .int .i64 B.op) (h:K (a.put o.dst (aggV (B.C u v z))) w):o.wp Try.prog a w K Q:=by
 obtain⟨a1,c1,rfl,_⟩:=hB.sh.row.sl
 obtain⟨a2,c2,rfl,_⟩:=hB.pa.row.sl
 obtain⟨a3,c3,rfl,_⟩:=hB.ln.row.sl
 unfold Oper.wp execOp
 simp only [ho,List.map_toArray,List.map_cons,List.map_nil,h0,h1,h2,h3,h4,h5,h6,h7,h8,Sem.run_bind,build43,Result.andThen_ok]
 exact h
theorem o_stC {T n:Nat} (hT:Row T n) (x y:Operand) (ho:o.op= .store T x y) (hd:o.dst=none) (b:Nat) (vs:List Value) (hx:a.eval x=P0 b) (hy:a.eval y=aggV vs) (hl:vs.length=n) (h1:∀v∈vs,v.oneCell'=true) {us:List Value} (hB:Blk w b T us) (hu:us.length=n)
   (h:∀W,Blk W b T vs→Kept [b] w W→K a W):o.wp Try.prog a w K Q:=by
 refine wp_storeN hT x y ho hd b 0 vs hx hy hl h1 (hB.there (by omega)) ?_
 exact h _ (hB.put (by omega)) ((Kept.refl _ _).setCells _ _ (by simp))
end
def Lo.book (s:Lo) (L:List Wi):Bo:=⟨s.ex,s.ow,lst s.shd,lst s.pa,s.ops,L,s.hn,s.hk,s.busy,s.op⟩
theorem cg41 (vs:Array Value) (w:World):(callFunc 69 vs).run Try.prog w= .ok (.enter 69 vs) w:=by kernel_rfl
theorem book15 (s:Lo) (ln:Value) (b:Nat) (L:List Wi) (w:World) (h:Blk w b 108 (s.C ln)) (hW:Ws w ln L) (hex: -1≤s.ex∧s.ex<8) (hL:L.length≤1000):Calls Try.prog 36 #[P0 b] w fun e w'=>∃x y z,e= .returned (aggV ((s.book L).C x y z))∧Bk w w' (s.book L) x y z∧Kept [] w w':=by
 have H:=hide h
 have HW:=hide hW
 clear h hW
 go_enter Try.func36,Try.ntmps36
 go_wp2_with (first |(refine wpAllocW bz43 zero43 2 rfl rfl rfl ?_;intro W1 b2 e1 B1 K1;have HZ:=hide B1;have HK1:=hide K1;have HG:Hid (w.heap.size≤b2):=(by show _≤_;omega);clear e1 B1 K1;refine Stp.go ?_))
 constructor
 go_wp2_with (first |(go_at_call 68;refine(none40 s ln b _ ((unhide H).kept (unhide HK1) (by simp))).mono ?_;rintro e W2 ⟨rfl,q2⟩;replace q2:=q2.symm;subst q2;refine Stp.go ?_))
 constructor
 go_wp2_with fail
 refine wp_region_any mixed (wpAny_gx 37 rfl (by kernel_rfl) [some (P0 b),some (P0 b),some (.pointer (some ⟨b,1,none⟩)),some (.int .i64 s.ex),some (P0 b),some (P0 b),some (.pointer (some ⟨b,2,none⟩)),some (.int .i64 s.ow),some (P0 b),some (aggV (b8 s.shd)),none,some (P0 b),some (P0 b),some (.pointer (some ⟨b,19,none⟩)),some (aggV (b8 s.pa)),none,some (P0 b),some (P0 b),some (.pointer (some ⟨b,11,none⟩)),some (aggV (i8 s.ops)),some (P0 b),some (P0 b),some (.pointer (some ⟨b,27,none⟩)),some (ln),none,some (P0 b),some (P0 b),some (.pointer (some ⟨b,28,none⟩)),some (aggV (Wi.C ⟨s.hn,s.hk⟩)),some (P0 b),some (.bool s.busy),some (P0 b),some (P0 b),some (.pointer (some ⟨b,30,none⟩)),some (.int .i64 s.op),none,none] rfl (by kernel_rfl) (fun l vs W=>(SBk w b2 (s.book L) 10 15 24 35 36) (fun i=>l.getD i false) vs W) (⟨(unhide HK1).drew,(fun h=>by cases h),(fun h=>by cases h),(fun h=>by cases h),(fun h=>by cases h),(fun h=>by cases h),(fun _=>(unhide HZ).drew),fun h=>by cases h⟩) ?_ ?_)
 · intro ix o' hi ho a' w2 l vs hls hlf hJ hout hin hdep hnot
   match ix,ho with
   | 0,ho=>
     cases ho
     have e0:=ho9 hout 0
     replace e0:a'.eval (.tmp 0)=_:=e0.trans rfl
     exact wp_move (.tmp 0) rfl _ e0 ⟨_,rfl,told_of rfl,keepG [10,15,24,35,36] SBk.loc (by omega) (by decide) hJ⟩
   | 1,ho=>
     cases ho
     exact o_nil (.tmp 6) rfl _ (hx9 (hi9 hin 0 6) rfl) ⟨_,rfl,told_of rfl,keepG [10,15,24,35,36] SBk.loc (by omega) (by decide) hJ⟩
   | 2,ho=>
     cases ho
     exact o_fld75_1 (.tmp 7) rfl b (0) (1) rfl (hx9 (hi9 hin 1 7) rfl) ⟨_,rfl,told_of rfl,keepG [10,15,24,35,36] SBk.loc (by omega) (by decide) hJ⟩
   | 3,ho=>
     cases ho
     exact o_load3 (.tmp 8) rfl _ _ (hx9 (hi9 hin 2 8) rfl) (fits_cell ((unhide H).kept hJ.kept (by simp)) 1 _ rfl) ⟨_,rfl,told_of rfl,keepG [10,15,24,35,36] SBk.loc (by omega) (by decide) hJ⟩
   | 4,ho=>
     cases ho
     have e0:=ho9 hout 0
     replace e0:a'.eval (.tmp 0)=_:=e0.trans rfl
     exact wp_move (.tmp 0) rfl _ e0 ⟨_,rfl,told_of rfl,keepG [10,15,24,35,36] SBk.loc (by omega) (by decide) hJ⟩
   | 5,ho=>
     cases ho
     exact o_nil (.tmp 10) rfl _ (hx9 (hi9 hin 4 10) rfl) ⟨_,rfl,told_of rfl,keepG [10,15,24,35,36] SBk.loc (by omega) (by decide) hJ⟩
   | 6,ho=>
     cases ho
     exact o_fld75_2 (.tmp 11) rfl b (0) (2) rfl (hx9 (hi9 hin 5 11) rfl) ⟨_,rfl,told_of rfl,keepG [10,15,24,35,36] SBk.loc (by omega) (by decide) hJ⟩
   | 7,ho=>
     cases ho
     exact o_load3 (.tmp 12) rfl _ _ (hx9 (hi9 hin 6 12) rfl) (fits_cell ((unhide H).kept hJ.kept (by simp)) 2 _ rfl) ⟨_,rfl,told_of rfl,keepG [10,15,24,35,36] SBk.loc (by omega) (by decide) hJ⟩
   | 8,ho=>
     cases ho
     have e0:=ho9 hout 0
     replace e0:a'.eval (.tmp 0)=_:=e0.trans rfl
     exact wp_move (.tmp 0) rfl _ e0 ⟨_,rfl,told_of rfl,keepG [10,15,24,35,36] SBk.loc (by omega) (by decide) hJ⟩
   | 9,ho=>
     cases ho
     have e0:a'.eval (.tmp 14)=P0 b:=hx9 (hi9 hin 8 14) rfl
     refine wp_callF 69 _ _ rfl #[P0 b] (by simp [e0]) (cg41 _ _) ((shd41 s ln b _ ((unhide H).kept hJ.kept (by simp)) hex).mono ?_)
     rintro e w3 ⟨rfl,hk3⟩
     exact⟨_,rfl,_,rfl,told_of rfl,nextG (by omega) (SBk.next hJ hk3 9 _ (by decide) (fun h=>absurd h (by decide)) (fun h=>absurd h (by decide)) (fun h=>absurd h (by decide)) (fun h=>absurd h (by decide)) (by decide) (fun h=>absurd h (by decide)))⟩
   | 10,ho=>
     cases ho
     have e0:a'.eval (.tmp 15)=aggV (b8 s.shd):=hx9 (hi9 hin 9 15) rfl
     refine wp_callF 70 _ _ rfl #[aggV (b8 s.shd)] (by simp [e0]) (cg42 _ _) ((list42 s.shd _).mono ?_)
     rintro e w3 ⟨u3,rfl,N3,hk3⟩
     exact⟨_,rfl,_,rfl,told_no rfl,nextG (by omega) (SBk.next hJ hk3 10 _ (by decide) (fun _=>N3.elder (w:=w) hJ.kept.size) (fun h=>absurd h (by decide)) (fun h=>absurd h (by decide)) (fun h=>absurd h (by decide)) (by decide) (fun _=>⟨ho9 hnot 35,ho9 hnot 36⟩))⟩
   | 11,ho=>
     cases ho
     have e0:=ho9 hout 0
     replace e0:a'.eval (.tmp 0)=_:=e0.trans rfl
     exact wp_move (.tmp 0) rfl _ e0 ⟨_,rfl,told_of rfl,keepG [10,15,24,35,36] SBk.loc (by omega) (by decide) hJ⟩
   | 12,ho=>
     cases ho
     exact o_nil (.tmp 17) rfl _ (hx9 (hi9 hin 11 17) rfl) ⟨_,rfl,told_of rfl,keepG [10,15,24,35,36] SBk.loc (by omega) (by decide) hJ⟩
   | 13,ho=>
     cases ho
     exact o_fld75_5 (.tmp 18) rfl b (0) (19) rfl (hx9 (hi9 hin 12 18) rfl) ⟨_,rfl,told_of rfl,keepG [10,15,24,35,36] SBk.loc (by omega) (by decide) hJ⟩
   | 14,ho=>
     cases ho
     exact wp_loadA row73 (.tmp 19) rfl b (19) (hx9 (hi9 hin 13 19) rfl) (b8 s.pa) rfl (Blk.paA ((unhide H).kept hJ.kept (by simp))) ⟨_,rfl,told_of rfl,keepG [10,15,24,35,36] SBk.loc (by omega) (by decide) hJ⟩
   | 15,ho=>
     cases ho
     have e0:a'.eval (.tmp 20)=aggV (b8 s.pa):=hx9 (hi9 hin 14 20) rfl
     refine wp_callF 70 _ _ rfl #[aggV (b8 s.pa)] (by simp [e0]) (cg42 _ _) ((list42 s.pa _).mono ?_)
     rintro e w3 ⟨u3,rfl,N3,hk3⟩
     exact⟨_,rfl,_,rfl,told_no rfl,nextG (by omega) (SBk.next hJ hk3 15 _ (by decide) (fun h=>absurd h (by decide)) (fun _=>N3.elder (w:=w) hJ.kept.size) (fun h=>absurd h (by decide)) (fun h=>absurd h (by decide)) (by decide) (fun _=>⟨ho9 hnot 35,ho9 hnot 36⟩))⟩
   | 16,ho=>
     cases ho
     have e0:=ho9 hout 0
     replace e0:a'.eval (.tmp 0)=_:=e0.trans rfl
     exact wp_move (.tmp 0) rfl _ e0 ⟨_,rfl,told_of rfl,keepG [10,15,24,35,36] SBk.loc (by omega) (by decide) hJ⟩
   | 17,ho=>
     cases ho
     exact o_nil (.tmp 22) rfl _ (hx9 (hi9 hin 16 22) rfl) ⟨_,rfl,told_of rfl,keepG [10,15,24,35,36] SBk.loc (by omega) (by decide) hJ⟩
   | 18,ho=>
     cases ho
     exact o_fld75_4 (.tmp 23) rfl b (0) (11) rfl (hx9 (hi9 hin 17 23) rfl) ⟨_,rfl,told_of rfl,keepG [10,15,24,35,36] SBk.loc (by omega) (by decide) hJ⟩
   | 19,ho=>
     cases ho
     exact wp_loadA row37 (.tmp 24) rfl b (11) (hx9 (hi9 hin 18 24) rfl) (i8 s.ops) rfl (Blk.opsA ((unhide H).kept hJ.kept (by simp))) ⟨_,rfl,told_of rfl,keepG [10,15,24,35,36] SBk.loc (by omega) (by decide) hJ⟩
   | 20,ho=>
     cases ho
     have e0:=ho9 hout 0
     replace e0:a'.eval (.tmp 0)=_:=e0.trans rfl
     exact wp_move (.tmp 0) rfl _ e0 ⟨_,rfl,told_of rfl,keepG [10,15,24,35,36] SBk.loc (by omega) (by decide) hJ⟩
   | 21,ho=>
     cases ho
     exact o_nil (.tmp 26) rfl _ (hx9 (hi9 hin 20 26) rfl) ⟨_,rfl,told_of rfl,keepG [10,15,24,35,36] SBk.loc (by omega) (by decide) hJ⟩
   | 22,ho=>
     cases ho
     exact o_fld75_6 (.tmp 27) rfl b (0) (27) rfl (hx9 (hi9 hin 21 27) rfl) ⟨_,rfl,told_of rfl,keepG [10,15,24,35,36] SBk.loc (by omega) (by decide) hJ⟩
   | 23,ho=>
     cases ho
     exact o_load38 (.tmp 28) rfl _ _ (hx9 (hi9 hin 22 28) rfl) (fits_cell ((unhide H).kept hJ.kept (by simp)) 27 _ rfl) ⟨_,rfl,told_of rfl,keepG [10,15,24,35,36] SBk.loc (by omega) (by decide) hJ⟩
   | 24,ho=>
     cases ho
     have e0:a'.eval (.tmp 29)=ln:=hx9 (hi9 hin 23 29) rfl
     refine wp_callF 71 _ _ rfl #[ln] (by simp [e0]) (cg43 _ _) ((clone43 L ln _ ((unhide HW).kept hJ.kept (by simp)) hL).mono ?_)
     rintro e w3 ⟨u3,rfl,N3,hk3⟩
     exact⟨_,rfl,_,rfl,told_no rfl,nextG (by omega) (SBk.next hJ hk3 24 _ (by decide) (fun h=>absurd h (by decide)) (fun h=>absurd h (by decide)) (fun _=>N3.elder (w:=w) hJ.kept.size) (fun h=>absurd h (by decide)) (by decide) (fun _=>⟨ho9 hnot 35,ho9 hnot 36⟩))⟩
   | 25,ho=>
     cases ho
     have e0:=ho9 hout 0
     replace e0:a'.eval (.tmp 0)=_:=e0.trans rfl
     exact wp_move (.tmp 0) rfl _ e0 ⟨_,rfl,told_of rfl,keepG [10,15,24,35,36] SBk.loc (by omega) (by decide) hJ⟩
   | 26,ho=>
     cases ho
     exact o_nil (.tmp 31) rfl _ (hx9 (hi9 hin 25 31) rfl) ⟨_,rfl,told_of rfl,keepG [10,15,24,35,36] SBk.loc (by omega) (by decide) hJ⟩
   | 27,ho=>
     cases ho
     exact o_fld75_7 (.tmp 32) rfl b (0) (28) rfl (hx9 (hi9 hin 26 32) rfl) ⟨_,rfl,told_of rfl,keepG [10,15,24,35,36] SBk.loc (by omega) (by decide) hJ⟩
   | 28,ho=>
     cases ho
     exact wp_loadA row41 (.tmp 33) rfl b (28) (hx9 (hi9 hin 27 33) rfl) (Wi.C ⟨s.hn,s.hk⟩) rfl (Blk.hand ((unhide H).kept hJ.kept (by simp))) ⟨_,rfl,told_of rfl,keepG [10,15,24,35,36] SBk.loc (by omega) (by decide) hJ⟩
   | 29,ho=>
     cases ho
     have e0:=ho9 hout 0
     replace e0:a'.eval (.tmp 0)=_:=e0.trans rfl
     exact wp_move (.tmp 0) rfl _ e0 ⟨_,rfl,told_of rfl,keepG [10,15,24,35,36] SBk.loc (by omega) (by decide) hJ⟩
   | 30,ho=>
     cases ho
     have e0:a'.eval (.tmp 35)=P0 b:=hx9 (hi9 hin 29 35) rfl
     refine wp_callF 72 _ _ rfl #[P0 b] (by simp [e0]) (cg44 _ _) ((busy44 s ln b _ ((unhide H).kept hJ.kept (by simp))).mono ?_)
     rintro e w3 ⟨rfl,q3⟩
     replace q3:=q3.symm
     subst q3
     exact⟨_,rfl,_,rfl,told_of rfl,nextG (by omega) (SBk.next hJ (Kept.refl _ _) 30 _ (by decide) (fun h=>absurd h (by decide)) (fun h=>absurd h (by decide)) (fun h=>absurd h (by decide)) (fun h=>absurd h (by decide)) (by decide) (fun h=>absurd h (by decide)))⟩
   | 31,ho=>
     cases ho
     have e0:=ho9 hout 0
     replace e0:a'.eval (.tmp 0)=_:=e0.trans rfl
     exact wp_move (.tmp 0) rfl _ e0 ⟨_,rfl,told_of rfl,keepG [10,15,24,35,36] SBk.loc (by omega) (by decide) hJ⟩
   | 32,ho=>
     cases ho
     exact o_nil (.tmp 37) rfl _ (hx9 (hi9 hin 31 37) rfl) ⟨_,rfl,told_of rfl,keepG [10,15,24,35,36] SBk.loc (by omega) (by decide) hJ⟩
   | 33,ho=>
     cases ho
     exact o_fld75_8 (.tmp 38) rfl b (0) (30) rfl (hx9 (hi9 hin 32 38) rfl) ⟨_,rfl,told_of rfl,keepG [10,15,24,35,36] SBk.loc (by omega) (by decide) hJ⟩
   | 34,ho=>
     cases ho
     exact o_load2 (.tmp 39) rfl _ _ (hx9 (hi9 hin 33 39) rfl) (fits_cell ((unhide H).kept hJ.kept (by simp)) 30 _ rfl) ⟨_,rfl,told_of rfl,keepG [10,15,24,35,36] SBk.loc (by omega) (by decide) hJ⟩
   | 35,ho=>
     cases ho
     have e0:a'.eval (.tmp 9)= .int .i64 s.ex:=hx9 (hi9 hin 3 9) rfl
     have e1:a'.eval (.tmp 13)= .int .i64 s.ow:=hx9 (hi9 hin 7 13) rfl
     have e2:a'.eval (.tmp 16)=vs 10:=(hi9 hin 10 16).1
     have e3:a'.eval (.tmp 21)=vs 15:=(hi9 hin 15 21).1
     have e4:a'.eval (.tmp 25)=aggV (i8 s.ops):=hx9 (hi9 hin 19 25) rfl
     have e5:a'.eval (.tmp 30)=vs 24:=(hi9 hin 24 30).1
     exact o_bld43 (.tmp 9) (.tmp 13) (.tmp 16) (.tmp 21) (.tmp 25) (.tmp 30) (.tmp 34) (.tmp 36) (.tmp 40) rfl (s.book L) _ _ _ ⟨hJ.r1 (ho9 hdep 10),hJ.r2 (ho9 hdep 15),hJ.r3 (ho9 hdep 24)⟩ e0 e1 e2 e3 e4 e5 (hx9 (hi9 hin 28 34) rfl) (hx9 (hi9 hin 30 36) rfl) (hx9 (hi9 hin 34 40) rfl) ⟨_,rfl,told_no rfl,nextG (by omega) (SBk.next hJ (Kept.refl _ _) 35 _ (by decide) (fun h=>absurd h (by decide)) (fun h=>absurd h (by decide)) (fun h=>absurd h (by decide)) (fun _=>⟨rfl,ho9 hdep 10,ho9 hdep 15,ho9 hdep 24⟩) (by decide) (fun h=>absurd h (by decide)))⟩
   | 36,ho=>
     cases ho
     have e0:=ho9 hout 2
     replace e0:a'.eval (.tmp 2)=_:=e0.trans rfl
     have e1:a'.eval (.tmp 41)=vs 35:=(hi9 hin 35 41).1
     have hb:=ho9 hdep 35
     obtain⟨i1,i2,i3⟩:=hJ.cl hb
     exact o_stC row43 (.tmp 2) (.tmp 41) rfl rfl b2 _ e0 (e1.trans (hJ.bd hb)) rfl (BoC_one ⟨hJ.r1 i1,hJ.r2 i2,hJ.r3 i3⟩) (hJ.z hlf) rfl (fun W h1 h2=>⟨undef,rfl,told_no rfl,nextG (by omega) (SBk.store hJ h2 _ (by decide) h1 (unhide HG) ⟨40,_,hJ.z hlf,by decide,by decide⟩)⟩)
 intro l_ vs4 V4 hl hJ htold
 have t0:vs4 0=P0 b:=told_is _ (htold 0 (by decide)) rfl
 have t1:vs4 1=P0 b:=told_is _ (htold 1 (by decide)) rfl
 have t2:vs4 2= .pointer (some ⟨b,1,none⟩):=told_is _ (htold 2 (by decide)) rfl
 have t3:vs4 3= .int .i64 s.ex:=told_is _ (htold 3 (by decide)) rfl
 have t4:vs4 4=P0 b:=told_is _ (htold 4 (by decide)) rfl
 have t5:vs4 5=P0 b:=told_is _ (htold 5 (by decide)) rfl
 have t6:vs4 6= .pointer (some ⟨b,2,none⟩):=told_is _ (htold 6 (by decide)) rfl
 have t7:vs4 7= .int .i64 s.ow:=told_is _ (htold 7 (by decide)) rfl
 have t8:vs4 8=P0 b:=told_is _ (htold 8 (by decide)) rfl
 have t9:vs4 9=aggV (b8 s.shd):=told_is _ (htold 9 (by decide)) rfl
 have t11:vs4 11=P0 b:=told_is _ (htold 11 (by decide)) rfl
 have t12:vs4 12=P0 b:=told_is _ (htold 12 (by decide)) rfl
 have t13:vs4 13= .pointer (some ⟨b,19,none⟩):=told_is _ (htold 13 (by decide)) rfl
 have t14:vs4 14=aggV (b8 s.pa):=told_is _ (htold 14 (by decide)) rfl
 have t16:vs4 16=P0 b:=told_is _ (htold 16 (by decide)) rfl
 have t17:vs4 17=P0 b:=told_is _ (htold 17 (by decide)) rfl
 have t18:vs4 18= .pointer (some ⟨b,11,none⟩):=told_is _ (htold 18 (by decide)) rfl
 have t19:vs4 19=aggV (i8 s.ops):=told_is _ (htold 19 (by decide)) rfl
 have t20:vs4 20=P0 b:=told_is _ (htold 20 (by decide)) rfl
 have t21:vs4 21=P0 b:=told_is _ (htold 21 (by decide)) rfl
 have t22:vs4 22= .pointer (some ⟨b,27,none⟩):=told_is _ (htold 22 (by decide)) rfl
 have t23:vs4 23=ln:=told_is _ (htold 23 (by decide)) rfl
 have t25:vs4 25=P0 b:=told_is _ (htold 25 (by decide)) rfl
 have t26:vs4 26=P0 b:=told_is _ (htold 26 (by decide)) rfl
 have t27:vs4 27= .pointer (some ⟨b,28,none⟩):=told_is _ (htold 27 (by decide)) rfl
 have t28:vs4 28=aggV (Wi.C ⟨s.hn,s.hk⟩):=told_is _ (htold 28 (by decide)) rfl
 have t29:vs4 29=P0 b:=told_is _ (htold 29 (by decide)) rfl
 have t30:vs4 30= .bool s.busy:=told_is _ (htold 30 (by decide)) rfl
 have t31:vs4 31=P0 b:=told_is _ (htold 31 (by decide)) rfl
 have t32:vs4 32=P0 b:=told_is _ (htold 32 (by decide)) rfl
 have t33:vs4 33= .pointer (some ⟨b,30,none⟩):=told_is _ (htold 33 (by decide)) rfl
 have t34:vs4 34= .int .i64 s.op:=told_is _ (htold 34 (by decide)) rfl
 rw [show (List.range 37).map vs4= [vs4 0,vs4 1,vs4 2,vs4 3,vs4 4,vs4 5,vs4 6,vs4 7,vs4 8,vs4 9,vs4 10,vs4 11,vs4 12,vs4 13,vs4 14,vs4 15,vs4 16,vs4 17,vs4 18,vs4 19,vs4 20,vs4 21,vs4 22,vs4 23,vs4 24,vs4 25,vs4 26,vs4 27,vs4 28,vs4 29,vs4 30,vs4 31,vs4 32,vs4 33,vs4 34,vs4 35,vs4 36] from rfl]
 simp only [t0,t1,t2,t3,t4,t5,t6,t7,t8,t9,t11,t12,t13,t14,t16,t17,t18,t19,t20,t21,t22,t23,t25,t26,t27,t28,t29,t30,t31,t32,t33,t34,putAll,Act.put,List.setIfInBounds_toArray,List.set_cons_succ,List.set_cons_zero]
 clear t0 t1 t2 t3 t4 t5 t6 t7 t8 t9 t11 t12 t13 t14 t16 t17 t18 t19 t20 t21 t22 t23 t25 t26 t27 t28 t29 t30 t31 t32 t33 t34 htold
 have h1:=hJ.r1 (hl 10 (by decide))
 have h2:=hJ.r2 (hl 15 (by decide))
 have h3:=hJ.r3 (hl 24 (by decide))
 have h5:=hJ.st (hl 36 (by decide))
 have h6:=hJ.kept
 generalize vs4 10=x at h1 h5⊢
 generalize vs4 15=y at h2 h5⊢
 generalize vs4 24=z at h3 h5⊢
 have HB5:=hide h5
 have HBk:Hid (Bk w V4 (s.book L) x y z):=⟨h1,h2,h3⟩
 have HK6:=hide h6
 clear h1 h2 h3 h5 h6 hJ hl
 go_wp2_with fail
 exact bodyPost_ret (res15 _ b2 _ _ rfl rfl (unhide HB5)) rfl ⟨x,y,z,rfl,unhide HBk,unhide HK6⟩
end Go.Proofs.Ytbigongmlpoahaa
