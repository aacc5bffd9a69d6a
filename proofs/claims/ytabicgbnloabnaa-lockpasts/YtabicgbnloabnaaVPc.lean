import Derived.Test.YtabicgbnloabnaaVPb
namespace Go.Proofs.Ytabicgbnloabnaa
set_option maxRecDepth 100000
set_option linter.unusedSimpArgs false
open Go.RowKit
structure Iv (s:Lo):Prop where
 ex:0≤s.ex→s.ow=s.ex∧∀i,i<8→s.ho i=true→(i:Int)=s.ex
 ow:0≤s.ow→s.ho s.ow.toNat=true
 z:1≤s.op∨∀i,s.wa i=false
structure Good (s:Lo) (o:Od):Prop where
 d:o.k=6→o.o=0
 n:¬o.k=6→1≤o.o∧o.o≤s.op
 x:(o.k=1∧o.m=2)∨o.k=3→∀i,i<8→s.ho i=true→(i:Int)=o.t∨(o.k=3∧(i:Int)=o.n)
theorem Iv.of {s q:Lo} (h:Iv s) (h1:q.ex=s.ex) (h2:q.ow=s.ow) (h3:q.ho=s.ho) (hz:1≤q.op∨∀i,q.wa i=false):Iv q:=⟨by rw [h1,h2,h3];exact h.ex,by rw [h2,h3];exact h.ow,hz⟩
theorem Iv.same {s q:Lo} (h:Iv s) (h1:q.ex=s.ex) (h2:q.ow=s.ow) (h3:q.ho=s.ho) (h4:q.op=s.op) (h5:q.wa=s.wa):Iv q:=h.of h1 h2 h3 (by rw [h4,h5];exact h.z)
theorem Good.ofD {s:Lo} {o:Od} (h1:o.k=6) (h2:o.o=0):Good s o:=⟨fun _=>h2,fun h=>absurd h1 h,fun h=>by omega⟩
theorem Good.six {s:Lo} {n p:Int} :Good s ⟨6,n,0,0,0,p⟩:=Good.ofD rfl rfl
theorem emp_at {f:Nat→Bool} (h:emp f=true) (i:Nat) (hi:i<8):f i=false:=by
 have h1:∀i∈List.range 8,f i=no8 i:=by simpa [emp,like] using h
 exact h1 i (by simpa using hi)
theorem send2_good {s:Lo} (ho:1≤s.op):∀o∈s.send 2 1,Good s o:=by
 intro o hm
 unfold Lo.send at hm
 split at hm
 · simp at hm;subst hm;exact⟨fun h=>by simp at h,fun _=>⟨ho,Int.le_refl _⟩,fun h=>by simp at h⟩
 · simp at hm;subst hm;exact⟨fun h=>by simp at h,fun _=>⟨ho,Int.le_refl _⟩,fun h=>by simp at h⟩
theorem handOver_good {s:Lo} (hk:s.Ok) (ho:1≤s.op):∀o∈s.handOver.2,Good s.handOver.1 o:=by
 intro o hm
 unfold Lo.handOver at hm
 simp only at hm
 split at hm
 · rename_i he
   have hv:∀i,i<8→s.find.oth i=false:=fun i hi=>emp_at he i hi
   unfold Lo.send at hm
   split at hm
   · rename_i hs
     simp at hm;subst hm
     refine⟨fun h=>by simp at h,fun _=>⟨ho,Int.le_refl _⟩,fun _ i hi hh=>Or.inl ?_⟩
     have h1:=hv i hi
     unfold Lo.oth at h1
     rw [if_pos (show s.find.su= -1 from hs)] at h1
     show(i:Int)=(s.hn:Int)
     by_cases e:i=s.hn
     · rw [e]
     · simp only [upd,show(s.find).hn=s.hn from rfl,if_neg e] at h1
       rw [show s.find.ho=s.ho from rfl] at h1
       rw [show s.handOver.1.ho=s.ho from rfl] at hh
       rw [hh] at h1;cases h1
   · rename_i hs
     simp at hm;subst hm
     refine⟨fun h=>by simp at h,fun _=>⟨ho,Int.le_refl _⟩,fun _ i hi hh=> ?_⟩
     have h1:=hv i hi
     unfold Lo.oth at h1
     rw [if_neg (show ¬s.find.su= -1 from hs)] at h1
     show(i:Int)=s.find.su∨((3:Int)=3∧(i:Int)=(s.hn:Int))
     have hsu: -1≤s.find.su:=(find_ok hk).su.1
     have hsv:¬s.find.su= -1:=hs
     by_cases e:i=s.hn
     · exact Or.inr ⟨rfl,by rw [e]⟩
     · by_cases e2:i=s.find.su.toNat
       · exact Or.inl (by omega)
       · simp only [upd,show(s.find).hn=s.hn from rfl,if_neg e,if_neg e2] at h1
         rw [show s.find.ho=s.ho from rfl] at h1
         rw [show s.handOver.1.ho=s.ho from rfl] at hh
         rw [hh] at h1;cases h1
 · unfold Lo.drops at hm
   obtain⟨n,_,rfl⟩:=List.mem_map.1 hm
   exact⟨fun h=>by simp at h,fun _=>⟨ho,Int.le_refl _⟩,fun h=>by simp at h⟩
theorem handOn_good {s:Lo} (ho:1≤s.op):∀o∈s.handOn.2,Good s.handOn.1 o:=send2_good (s:=s.find) ho
theorem handOver_iv {s:Lo} (h:Iv s) (ho:1≤s.op):Iv s.handOver.1:=h.of rfl rfl rfl (.inl ho)
theorem handOn_iv {s:Lo} (h:Iv s):Iv s.handOn.1:=h.same rfl rfl rfl rfl rfl
structure Lf (s:Lo) (L:List Wi) (O:List Od):Prop where
 iv:Iv s
 gd:∀o∈O,Good s o
 bz:s.busy=false→L= []
theorem begin_lf {s:Lo} (h:Iv s) (hk:s.Ok) (ho:1≤s.op) (hb:s.busy=true):Iv s.begin.1∧(∀o∈s.begin.2,Good s.begin.1 o)∧(s.begin.1.busy=false→∀o∈s.begin.2,o.k=6∧o.o=0):=by
 unfold Lo.begin
 split
 · unfold Lo.bSh
   split
   · exact⟨h.same rfl rfl rfl rfl rfl,by simp,by simp⟩
   · exact⟨handOn_iv h,handOn_good ho,fun e=>absurd (show s.busy=false from e) (by rw [hb];simp)⟩
 · split
   · unfold Lo.bEx
     split
     · exact⟨h.same rfl rfl rfl rfl rfl,by simp,by simp⟩
     · exact⟨handOver_iv h ho,handOver_good hk ho,fun e=>absurd (show s.busy=false from e) (by rw [hb];simp)⟩
   · unfold Lo.bCl
     split
     · refine⟨h.same rfl rfl rfl rfl rfl,?_,?_⟩
       · intro o hm
         simp [Lo.needless] at hm;subst hm;exact Good.six
       · intro _ o hm
         simp [Lo.needless] at hm;subst hm;exact⟨rfl,rfl⟩
     · refine⟨h.same rfl rfl rfl rfl rfl,?_,fun e=>absurd (show s.busy=false from e) (by rw [hb];simp)⟩
       intro o hm
       simp at hm;subst hm
       exact⟨fun h=>by simp at h,fun _=>⟨ho,Int.le_refl _⟩,fun h=>by simp at h⟩
theorem take_busy {s:Lo} {x:Wi} (hx:x.Ok):(s.take x).busy=true:=by
 have h1:¬(s.take x).wi=wi0:=by
   intro e
   have h2:x.k=0:=congrArg Wi.k e
   rcases hx.2 with h | h | h <;> omega
 simp [Lo.busy,h1]
theorem next_op:∀(L:List Wi) (s:Lo),s.op≤(nextP s L).1.op
 | [],s=>Int.le_refl _
 | x::r,s=>by
   have h1:(s.take x).begin.1.op=s.op+1:=begin_op _
   rw [nextP]
   split
   · show s.op≤(s.take x).begin.1.op;omega
   · have:=next_op r (s.take x).begin.1
     show s.op≤(nextP (s.take x).begin.1 r).1.op;omega
theorem next_lf:∀(L:List Wi) (s:Lo) (A:Nat),Gd A s L→Iv s→Lf (nextP s L).1 (nextP s L).2.1 (nextP s L).2.2
 | [],s,A,_,h=>⟨h,by simp [nextP],fun _=>rfl⟩
 | x::r,s,A,g,h=>by
   have hx:=g.all x (by simp)
   have ht:=take_ok g.ok hx
   have h4:=g.op0
   have h3:=g.op1
   have h5:=g.len
   simp only [List.length_cons,Int.natCast_add,Int.natCast_one] at h3 h5
   have hop:(s.take x).op=s.op+1:=rfl
   have h2:(s.take x).begin.1.op=s.op+1:=begin_op _
   have hg:Gd A (s.take x).begin.1 r:=⟨begin_ok ht,fun y hy=>g.all y (by simp [hy]),by omega,by omega,by omega⟩
   obtain⟨b1,b2,b3⟩:=begin_lf (s:=s.take x) (h.of rfl rfl rfl (.inl (by rw [hop];omega))) ht (by rw [hop];omega) (take_busy hx)
   rw [nextP]
   split
   · rename_i hbz
     exact⟨b1,b2,fun e=>by rw [hbz] at e;cases e⟩
   · rename_i hbz
     have hz:(s.take x).begin.1.busy=false:=by simpa using hbz
     have ih:=next_lf r _ A hg b1
     refine⟨ih.iv,fun o hm=> ?_,ih.bz⟩
     rcases List.mem_append.1 hm with h9 | h9
     · exact Good.ofD (b3 hz o h9).1 (b3 hz o h9).2
     · exact ih.gd o h9
theorem Lf.none {s:Lo} {L:List Wi} (h:Iv s) (hb:s.busy=false→L= []):Lf s L []:=⟨h,by simp,hb⟩
theorem Lf.pre {q:Lo×List Wi×List Od} {O:List Od} (h:Lf q.1 q.2.1 q.2.2) (hO:∀o∈O,o.k=6∧o.o=0):Lf q.1 q.2.1 (O++q.2.2):=⟨h.iv,fun o hm=>by
   rcases List.mem_append.1 hm with h9 | h9
   · exact Good.ofD (hO o h9).1 (hO o h9).2
   · exact h.gd o h9,h.bz⟩
theorem ask_lf {A : Nat} {s : Lo} {L : List Wi} (g : Gd A s L) (h : Iv s) (hb : s.busy = false → L = []) {x:Wi} (hx:x.Ok):Lf (askP s L x).1 (askP s L x).2.1 (askP s L x).2.2∧s.op≤(askP s L x).1.op:=by
 have hg:Gd (A+1) s (L++ [x]):=by
   refine⟨g.ok,fun y hy=> ?_,g.op0,?_,?_⟩
   · rcases List.mem_append.1 hy with h1 | h1
     · exact g.all y h1
     · simp at h1;subst h1;exact hx
   · have:=g.op1;simp;omega
   · have:=g.len;simp;omega
 unfold askP
 split
 · exact⟨Lf.none h hb,Int.le_refl _⟩
 · split
   · rename_i e
     exact⟨Lf.none h (fun e2=>by rw [e] at e2;cases e2),Int.le_refl _⟩
   · exact⟨next_lf _ _ _ hg h,next_op _ _⟩
theorem askI_lf {A : Nat} {s : Lo} {L : List Wi} (g : Gd A s L) (h : Iv s) (hb : s.busy = false → L = []) {m k:Int} (hk:k=1∨k=2∨k=3):Lf (askI s L m k).1 (askI s L m k).2.1 (askI s L m k).2.2∧s.op≤(askI s L m k).1.op:=by
 unfold askI
 split
 · rename_i hm
   have h1:0≤m∧m<8:=by simpa [isN] using hm
   exact ask_lf g h hb ⟨by simp;omega,hk⟩
 · exact⟨Lf.none h hb,Int.le_refl _⟩
theorem want_lf {A : Nat} {s : Lo} {L : List Wi} (g : Gd A s L) (h : Iv s) (hb : s.busy = false → L = []) {m md:Int} :Lf (wantP s L m md).1 (wantP s L m md).2.1 (wantP s L m md).2.2∧s.op≤(wantP s L m md).1.op:=by
 unfold wantP
 split
 · exact askI_lf g h hb (by simp)
 · split
   · exact askI_lf g h hb (by simp)
   · exact⟨Lf.none h hb,Int.le_refl _⟩
theorem give_iv {s : Lo} (h : Iv s) (n:Nat):Iv (s.give n):=by
 refine⟨fun e=> ?_,fun e=> ?_,h.z⟩
 · simp only [Lo.give] at e⊢
   by_cases h1:s.ex=(n:Int)
   · rw [if_pos h1] at e;omega
   · rw [if_neg h1] at e⊢
     obtain⟨h2,h3⟩:=h.ex e
     rw [if_neg (by omega)]
     refine⟨h2,fun i hi hh=>h3 i hi ?_⟩
     unfold upd at hh
     split at hh
     · cases hh
     · exact hh
 · simp only [Lo.give] at e⊢
   by_cases h1:s.ow=(n:Int)
   · rw [if_pos h1] at e;omega
   · rw [if_neg h1] at e⊢
     unfold upd
     rw [if_neg (by omega)]
     exact h.ow e
theorem isGone_lf {s : Lo} {L : List Wi} (h : Iv s) {n:Nat} (hk:s.Ok) (ho:1≤s.op) (hb:s.busy=false→L= []):Lf (s.isGone n).1 L (s.isGone n).2:=by
 unfold Lo.isGone
 split
 · exact⟨handOver_iv (h.of rfl rfl rfl (.inl ho)) ho,handOver_good (setWa_ok hk _ _) ho,hb⟩
 · exact Lf.none (h.of rfl rfl rfl (.inl ho)) hb
theorem gone_lf {A : Nat} {s : Lo} {L : List Wi} (g : Gd A s L) (h : Iv s) (hb : s.busy = false → L = []) {m c:Int} :Lf (goneP s L m c).1 (goneP s L m c).2.1 (goneP s L m c).2.2∧s.op≤(goneP s L m c).1.op:=by
 unfold goneP
 split
 · rename_i hc
   have ho:1≤s.op:=by
     rcases h.z with h1 | h1
     · exact h1
     · rw [h1] at hc;simp at hc
   refine⟨isGone_lf (give_iv h _) (give_ok g.ok _) ho hb,?_⟩
   simp only [isGone_op]
   exact Int.le_refl _
 · exact⟨Lf.none h hb,Int.le_refl _⟩
theorem now_iv {s : Lo} (h : Iv s):Iv s.now:=by
 unfold Lo.now
 split
 · unfold Lo.nowSh
   have key:∀q:Lo,q.ow=s.ow→q.ho=s.ho→q.op=s.op→q.wa=s.wa→q.ex= -1→Iv (q.put s.hn):=by
     intro q h1 h2 h3 h4 h5
     refine⟨fun e=> ?_,fun e=> ?_,?_⟩
     · have:(q.put s.hn).ex= -1:=h5
       omega
     · show upd q.ho s.hn true q.ow.toNat=true
       unfold upd
       split
       · rfl
       · rw [h1,h2];exact h.ow (by rw [← h1];exact e)
     · rcases h.z with h9 | h9
       · exact .inl (by show 1≤q.op;omega)
       · exact .inr (fun i=>by show q.wa i=false;rw [h4];exact h9 i)
   split
   · exact key _ rfl rfl rfl rfl rfl
   · exact key _ rfl rfl rfl rfl rfl
 · unfold Lo.nowEx
   have key:∀q:Lo,q.op=s.op→q.wa=s.wa→q.ho=no8→Iv ((q.put s.hn).own s.hn):=by
     intro q h3 h4 h5
     refine⟨fun e=>⟨rfl,fun i hi hh=> ?_⟩,fun e=> ?_,?_⟩
     · have h6:upd q.ho s.hn true i=true:=hh
       unfold upd at h6
       split at h6
       · rename_i e1;show(i:Int)=(s.hn:Int);rw [e1]
       · rw [h5] at h6;cases h6
     · show upd q.ho s.hn true ((s.hn:Int)).toNat=true
       simp [upd]
     · rcases h.z with h9 | h9
       · exact .inl (by show 1≤q.op;omega)
       · exact .inr (fun i=>by show q.wa i=false;rw [h4];exact h9 i)
   split
   · exact key _ rfl rfl rfl
   · exact key _ rfl rfl rfl
theorem now_op {s : Lo} :s.now.op=s.op:=by unfold Lo.now;split;exact nowSh_op _ _;exact nowEx_op _ _
theorem got_lf {A : Nat} {s : Lo} {L : List Wi} (g : Gd A s L) (h : Iv s) (hb : s.busy = false → L = []) {m c:Int} :Lf (gotP s L m c).1 (gotP s L m c).2.1 (gotP s L m c).2.2∧s.op≤(gotP s L m c).1.op:=by
 unfold gotP
 split
 · refine⟨next_lf _ _ _ (over_gd (now_gd g)) ((now_iv h).same rfl rfl rfl rfl rfl),?_⟩
   have h1:=next_op L s.now.over
   have h2:s.now.over.op=s.op:=now_op
   omega
 · exact⟨Lf.none h hb,Int.le_refl _⟩
theorem rel_lf {A : Nat} {s : Lo} {L : List Wi} (g : Gd A s L) (h : Iv s) (hb : s.busy = false → L = []) {m c:Int} :Lf (relP s L m c).1 (relP s L m c).2.1 (relP s L m c).2.2∧s.op≤(relP s L m c).1.op:=by
 unfold relP
 split
 · have hv:=give_iv h m.toNat
   have hk:=give_ok g.ok m.toNat
   have hop:(s.give m.toNat).op=s.op:=rfl
   unfold relN
   split
   · rename_i hc
     have ho:1≤s.op:=by
       rcases h.z with h1 | h1
       · exact h1
       · rw [show (s.give m.toNat).wa=s.wa from rfl,h1] at hc;simp at hc
     refine⟨isGone_lf hv hk ho hb,?_⟩
     simp only [isGone_op]
     exact Int.le_refl _
   · split
     · have h0:=g.op0
       have hop1:(s.give m.toNat).opUp.op=s.op+1:=rfl
       refine⟨?_,?_⟩
       · unfold Lo.anew
         split
         · exact⟨handOn_iv (hv.of rfl rfl rfl (.inl (by rw [hop1];omega))),handOn_good (by rw [hop1];omega),hb⟩
         · exact⟨handOver_iv (hv.of rfl rfl rfl (.inl (by rw [hop1];omega))) (by rw [hop1];omega),handOver_good (opUp_ok hk) (by rw [hop1];omega),hb⟩
       · have:=anew_op (s.give m.toNat)
         show s.op≤(s.give m.toNat).anew.1.op
         omega
     · split
       · have hg:Gd A (s.give m.toNat).needless.1 L:=⟨needless_ok hk,g.all,g.op0,g.op1,g.len⟩
         have h1:=next_op L (s.give m.toNat).needless.1
         have h2:(s.give m.toNat).needless.1.op=s.op:=rfl
         refine⟨Lf.pre (next_lf _ _ _ hg (hv.same rfl rfl rfl rfl rfl)) (fun o hm=> ?_),?_⟩
         · simp [Lo.needless] at hm;subst hm;exact⟨rfl,rfl⟩
         · show s.op≤(nextP (s.give m.toNat).needless.1 L).1.op;omega
       · exact⟨Lf.none hv hb,Int.le_refl _⟩
 · exact⟨Lf.none h hb,Int.le_refl _⟩
theorem disc_six  {s:Lo} {p:Int} :∀o∈s.discards p,o.k=6∧o.o=0:=by
 intro o hm
 obtain⟨n,_,rfl⟩:=List.mem_map.1 hm
 exact⟨rfl,rfl⟩
theorem wrote_lf {A : Nat} {s : Lo} {L : List Wi} (g : Gd A s L) (h : Iv s) (hb : s.busy = false → L = []) {m c p:Int} :Lf (wroteP s L m c p).1 (wroteP s L m c p).2.1 (wroteP s L m c p).2.2∧s.op≤(wroteP s L m c p).1.op:=by
 have hd:∀q:Lo,Iv q→(q.busy=false→L= [])→Lf q L (s.discards p):=fun q h1 h2=>⟨h1,fun o hm=>Good.ofD (disc_six o hm).1 (disc_six o hm).2,h2⟩
 unfold wroteP
 split
 · unfold wroteN
   split
   · rename_i hc
     split
     · split
       · have h1:=next_op L s.noPa.over
         have h2:s.noPa.over.op=s.op:=rfl
         refine⟨Lf.pre (next_lf _ _ A ⟨over_ok (noPa_ok g.ok),g.all,g.op0,g.op1,g.len⟩ (h.same rfl rfl rfl rfl rfl)) disc_six,?_⟩
         show s.op≤(nextP s.noPa.over L).1.op;omega
       · exact⟨hd _ (h.same rfl rfl rfl rfl rfl) hb,Int.le_refl _⟩
     · rename_i hx
       have hno:Iv s.noPa.noOw:=by
         refine⟨fun e=> ?_,fun e=>absurd e (by show ¬(0:Int)≤ -1;omega),h.z⟩
         exfalso
         have e1:0≤s.ex:=e
         have:=(h.ex e1).1
         omega
       split
       · have h1:=next_op L s.noPa.noOw.over
         have h2:s.noPa.noOw.over.op=s.op:=rfl
         refine⟨Lf.pre (next_lf _ _ A ⟨over_ok (noOw_ok (noPa_ok g.ok)),g.all,g.op0,g.op1,g.len⟩ (hno.same rfl rfl rfl rfl rfl)) disc_six,?_⟩
         show s.op≤(nextP s.noPa.noOw.over L).1.op;omega
       · exact⟨hd _ hno hb,Int.le_refl _⟩
   · exact⟨hd _ h hb,Int.le_refl _⟩
 · exact⟨Lf.none h hb,Int.le_refl _⟩
theorem pdo_lf {A : Nat} {s : Lo} {L : List Wi} (g : Gd A s L) (h : Iv s) (hb : s.busy = false → L = []) (r:Rk) (x:Sp):Lf (pdo s L r x).1 (pdo s L r x).2.1 (pdo s L r x).2.2∧s.op≤(pdo s L r x).1.op:=by
 unfold pdo
 repeat' split
 · exact want_lf g h hb
 · exact askI_lf g h hb (by simp)
 · exact gone_lf g h hb
 · exact got_lf g h hb
 · exact rel_lf g h hb
 · exact wrote_lf g h hb
 · exact⟨Lf.none h hb,Int.le_refl _⟩
theorem lo0_iv:Iv lo0:=⟨fun e=>absurd e (by decide),fun e=>absurd e (by decide),.inr (fun _=>rfl)⟩
theorem lst_none:∀(j:Nat) (f:Nat→Bool),(∀i,i<j→f i=false)→lstTo f j= []
 | 0,_,_=>rfl
 | j+1,f,h=>by
   have h1:=lst_none j f (fun i hi=>h i (by omega))
   have h2:=h j (by omega)
   simp [lstTo,h1,h2]
end Go.Proofs.Ytabicgbnloabnaa
