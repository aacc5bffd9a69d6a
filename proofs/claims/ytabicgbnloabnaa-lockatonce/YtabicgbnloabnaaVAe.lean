import Derived.Test.YtabicgbnloabnaaVJAd
namespace Go.Proofs.Ytabicgbnloabnaa
set_option maxRecDepth 100000
set_option linter.unusedSimpArgs false
open Go.RowKit
variable {s:Lo} {m o:Nat→Int}
def doP (m o:Nat→Int) (s:Lo) (x:Od):(Nat→Int)×(Nat→Int)×(Lo×List Wi×List Od):=
 if x.k=1 then (upd m x.t.toNat x.m,upd o x.t.toNat x.o,gotP s [] x.t x.o)
 else if x.k=2 then (upd (upd m x.t.toNat 1) x.n.toNat 1,upd (upd o x.t.toNat x.o) x.n.toNat x.o,gotP s [] x.n x.o)
 else if x.k=3 then (upd (upd m x.t.toNat 0) x.n.toNat 2,upd o x.n.toNat x.o,gotP s [] x.n x.o)
 else if x.k=4 then (upd m x.t.toNat 0,o,goneP s [] x.t x.o)
 else if x.k=5 then (m,o,wroteP s [] x.t (o x.t.toNat) 1)
 else (m,o,(s,[],[]))
def Tg (tg:Option (Nat×Int)) (m:Nat→Int):Prop:=∀a v,tg=some (a,v)→m a=v
inductive Fl (tg:Option (Nat×Int)):Nat→Lo→(Nat→Int)→(Nat→Int)→List Od→Prop
 | done {k:Nat} {s:Lo} {m o:Nat→Int} {T:List Od} (h:s.hk=0) (h2:s.hn=0) (hT:∀x∈T,x.k=6∧(0≤x.t∧x.t<8)∧(0≤x.n∧x.n<8)) (hk:T.length≤k) (jv:Jv s) (sy:Sy s m o) (g:Tg tg m):Fl tg k s m o T
 | sh {k:Nat} {s:Lo} {m o:Nat→Int} (h:s.hk=1) (hs:¬s.su= -1→s.ho s.su.toNat=true) (hk:1≤k) (jv:Jv s) (sy:Sy s m o) (g:tg=some (s.hn,1)):Fl tg k s m o (s.send 2 1)
 | ex {k:Nat} {s:Lo} {m o:Nat→Int} (h:s.hk=2) (hw:s.wa=no8) (hh:∀i,s.ho i=true→i=s.hn∨(¬s.su= -1∧i=s.su.toNat)) (hk:1≤k) (jv:Jv s) (sy:Sy s m o) (g:tg=some (s.hn,2)):Fl tg k s m o (s.send 3 2)
 | drops {k:Nat} {s:Lo} {m o:Nat→Int} (h:s.hk=2) (hw:s.wa=s.oth) (hs:s.su=s.sup s.hn) (hk:s.drops.length+1≤k) (hd:s.drops≠ []) (jv:Jv s) (sy:Sy s m o) (g:tg=some (s.hn,2)):Fl tg k s m o s.drops
 | fl {k:Nat} {s:Lo} {m o:Nat→Int} (h:s.hk=3) (ho:0≤s.ow) (hk:10≤k) (jv:Jv s) (sy:Sy s m o) (g:tg=none):Fl tg k s m o [⟨5,s.ow,s.op,0,0,0⟩]
theorem Fl.jv {tg:Option (Nat×Int)} {k:Nat} {T:List Od} (h:Fl tg k s m o T):Jv s:=by cases h <;> assumption
theorem Fl.sy {tg:Option (Nat×Int)} {k:Nat} {T:List Od} (h:Fl tg k s m o T):Sy s m o:=by cases h <;> assumption
def Lo.isGoneQ (q:Lo):Lo×List Od:=if emp q.wa then q.handOver else (q,[])
structure Fs (tg:Option (Nat×Int)) (k:Nat) (s:Lo) (m o:Nat→Int) (x:Od) (T:List Od):Prop where
 t:0≤x.t∧x.t<8
 n:0≤x.n∧x.n<8
 kk:x.k=1∨x.k=2∨x.k=3∨x.k=4∨x.k=5∨x.k=6
 l:(doP m o s x).2.2.2.1= []
 f:Fl tg k (doP m o s x).2.2.1 (doP m o s x).1 (doP m o s x).2.1 (T++(doP m o s x).2.2.2.2)
theorem got_of (h:s.hk=1∨s.hk=2) (hw:s.wa=no8):gotP s [] (s.hn:Int) s.op=(s.now.over,[],[]):=by
 unfold gotP
 rw [if_pos]
 · rfl
 · refine⟨?_,rfl,rfl⟩
   unfold Lo.sends
   rw [busy_t (by rcases h with h | h <;> simp [h]),hw]
   rcases h with h | h <;> simp [h,emp_no]
theorem send_one {k d:Int} :∃x,s.send k d= [x]:=by
 unfold Lo.send
 split
 · exact⟨_,rfl⟩
 · exact⟨_,rfl⟩
theorem fs_done {tg:Option (Nat×Int)} {k:Nat} {x:Od} {T:List Od} (h:s.hk=0) (h2:s.hn=0) (hT:∀y∈x::T,y.k=6∧(0≤y.t∧y.t<8)∧(0≤y.n∧y.n<8)) (hk:(x::T).length≤k+1) (jv:Jv s) (sy:Sy s m o) (g:Tg tg m):Fs tg k s m o x T:=by
 obtain⟨e1,e2,e3⟩:=hT x (by simp)
 have hd:doP m o s x=(m,o,(s,[],[])):=by
   unfold doP
   rw [if_neg (by omega),if_neg (by omega),if_neg (by omega),if_neg (by omega),if_neg (by omega)]
 refine⟨e2,e3,by omega,by rw [hd],?_⟩
 rw [hd]
 simp only [List.append_nil]
 exact .done h h2 (fun y hy=>hT y (by simp [hy])) (by simp at hk;omega) jv sy g
theorem fs_sh {tg:Option (Nat×Int)} {k:Nat} {x:Od} (hx:s.send 2 1= [x]) (h:s.hk=1) (hs:¬s.su= -1→s.ho s.su.toNat=true) (jv:Jv s) (sy:Sy s m o) (g:tg=some (s.hn,1)):Fs tg k s m o x []:=by
 have hn:=jv.ok.hn
 have hu:=jv.ok.su
 obtain⟨k1,k2⟩:=jv.k1 h
 have hwa:=jv.wa (by omega)
 have hg:=got_of (.inl h) hwa
 have hjv:Jv s.now.over:=by
   have h9:=(got_sim (L:= []) (m:=(s.hn:Int)) (c:=s.op) jv (by simp)).2
   rw [hg] at h9;exact h9
 unfold Lo.send at hx
 by_cases hsu:s.su= -1
 · rw [if_pos hsu] at hx
   simp at hx
   subst hx
   have hex:¬ 0≤s.ex:=fun e=>by have:=k2 e;omega
   have hd:doP m o s ⟨1,s.hn,s.op,1,0,0⟩=(upd m s.hn 1,upd o s.hn s.op,(s.now.over,[],[])):=by
     unfold doP
     rw [if_pos rfl,Int.toNat_natCast,hg]
   have hnow:s.now.over.ho=upd s.ho s.hn true∧s.now.over.ex= -1∧s.now.over.ops=upd s.ops s.hn s.op:=by
     unfold Lo.now Lo.nowSh
     rw [if_pos h,if_neg (fun e=>e.1 hsu)]
     exact⟨rfl,rfl,rfl⟩
   refine⟨⟨by show(0:Int)≤(s.hn:Int);omega,by show(s.hn:Int)<8;omega⟩,⟨by show(0:Int)≤0;omega,by show(0:Int)<8;omega⟩,.inl rfl,by rw [hd],?_⟩
   rw [hd]
   refine .done rfl rfl (by simp) (by simp) hjv ⟨fun i hi=> ?_,fun i hi hh=> ?_⟩ (fun a v e=> ?_)
   · show upd m s.hn 1 i=_
     rw [hnow.1,hnow.2.1]
     by_cases e:i=s.hn
     · rw [e,updYes,updYes,if_pos rfl,if_neg (by omega)]
     · rw [updNo _ _ e,updNo _ _ e,sy.m i hi]
       split
       · rw [if_neg (by omega),if_neg (by omega)]
       · rfl
   · show upd o s.hn s.op i=_
     rw [hnow.1] at hh
     rw [hnow.2.2]
     by_cases e:i=s.hn
     · rw [e,updYes,updYes]
     · rw [updNo _ _ e] at hh⊢
       rw [updNo _ _ e];exact sy.o i hi hh
   · rw [g] at e;cases e;show upd m s.hn 1 s.hn=1;rw [updYes]
 · rw [if_neg hsu] at hx
   simp at hx
   subst hx
   have hh:=hs hsu
   obtain⟨u,hu2⟩:∃u:Nat,s.su=(u:Int):=⟨s.su.toNat,by omega⟩
   have hu8:u<8:=by omega
   rw [hu2,Int.toNat_natCast] at hh
   have hne:¬u=s.hn:=by intro e;rw [e,k1] at hh;cases hh
   have hd:doP m o s ⟨2,s.su,s.op,0,s.hn,0⟩=(upd (upd m u 1) s.hn 1,upd (upd o u s.op) s.hn s.op,(s.now.over,[],[])):=by
     unfold doP
     rw [if_neg (by show ¬(2:Int)=1;decide),if_pos rfl]
     show(upd (upd m s.su.toNat 1) ((s.hn:Int)).toNat 1,upd (upd o s.su.toNat s.op) ((s.hn:Int)).toNat s.op,gotP s [] (s.hn:Int) s.op)=_
     rw [Int.toNat_natCast,hg,hu2,Int.toNat_natCast]
   have hnow:s.now.over.ho=upd s.ho s.hn true∧s.now.over.ex= -1∧s.now.over.ops=upd (upd s.ops u s.op) s.hn s.op:=by
     unfold Lo.now Lo.nowSh
     rw [if_pos h,if_pos ⟨hsu,by rw [hu2,Int.toNat_natCast];exact hh⟩,hu2,Int.toNat_natCast]
     exact⟨rfl,rfl,rfl⟩
   refine⟨⟨by show(0:Int)≤s.su;omega,by show s.su<8;omega⟩,⟨by show(0:Int)≤(s.hn:Int);omega,by show(s.hn:Int)<8;omega⟩,.inr (.inl rfl),by rw [hd],?_⟩
   rw [hd]
   refine .done rfl rfl (by simp) (by simp) hjv ⟨fun i hi=> ?_,fun i hi hh2=> ?_⟩ (fun a v e=> ?_)
   · show upd (upd m u 1) s.hn 1 i=_
     rw [hnow.1,hnow.2.1]
     by_cases e:i=s.hn
     · rw [e,updYes,updYes,if_pos rfl,if_neg (by omega)]
     · rw [updNo _ _ e,updNo _ _ e]
       by_cases e2:i=u
       · rw [e2,updYes,if_pos hh,if_neg (by omega)]
       · rw [updNo _ _ e2,sy.m i hi]
         split
         · rw [if_neg (fun e3=>by have:=k2 (by omega);omega),if_neg (by omega)]
         · rfl
   · show upd (upd o u s.op) s.hn s.op i=_
     rw [hnow.1] at hh2
     rw [hnow.2.2]
     by_cases e:i=s.hn
     · rw [e,updYes,updYes]
     · rw [updNo _ _ e] at hh2⊢
       rw [updNo _ _ e]
       by_cases e2:i=u
       · rw [e2,updYes,updYes]
       · rw [updNo _ _ e2,updNo _ _ e2];exact sy.o i hi hh2
   · rw [g] at e;cases e;show upd (upd m u 1) s.hn 1 s.hn=1;rw [updYes]
theorem fs_ex {tg:Option (Nat×Int)} {k:Nat} {x:Od} (hx:s.send 3 2= [x]) (h:s.hk=2) (hw:s.wa=no8) (hh:∀i,s.ho i=true→i=s.hn∨(¬s.su= -1∧i=s.su.toNat)) (jv:Jv s) (sy:Sy s m o) (g:tg=some (s.hn,2)):Fs tg k s m o x []:=by
 have hn:=jv.ok.hn
 have hu:=jv.ok.su
 have hg:=got_of (.inr h) hw
 have hjv:Jv s.now.over:=by
   have h9:=(got_sim (L:= []) (m:=(s.hn:Int)) (c:=s.op) jv (by simp)).2
   rw [hg] at h9;exact h9
 have hnow:s.now.over.ho=upd no8 s.hn true∧s.now.over.ex=(s.hn:Int)∧s.now.over.ops=upd ze8 s.hn s.op:=by
   unfold Lo.now Lo.nowEx
   rw [if_neg (by omega)]
   split <;> exact⟨rfl,rfl,rfl⟩
 have fin:∀m':Nat→Int,m' s.hn=2→(∀i,i<8→¬i=s.hn→m' i=0)→Fl tg k s.now.over m' (upd o s.hn s.op) []:=by
   intro m' h1 h2
   refine .done rfl rfl (by simp) (by simp) hjv ⟨fun i hi=> ?_,fun i hi hh2=> ?_⟩ (fun a v e=> ?_)
   · rw [hnow.1,hnow.2.1]
     by_cases e:i=s.hn
     · rw [e,updYes,if_pos rfl,if_pos rfl];exact h1
     · rw [updNo _ _ e];exact h2 i hi e
   · rw [hnow.1] at hh2
     rw [hnow.2.2]
     by_cases e:i=s.hn
     · rw [e,updYes,updYes]
     · rw [updNo _ _ e] at hh2;cases hh2
   · rw [g] at e;cases e;exact h1
 unfold Lo.send at hx
 by_cases hsu:s.su= -1
 · rw [if_pos hsu] at hx
   simp at hx
   subst hx
   have hd:doP m o s ⟨1,s.hn,s.op,2,0,0⟩=(upd m s.hn 2,upd o s.hn s.op,(s.now.over,[],[])):=by
     unfold doP
     rw [if_pos rfl,Int.toNat_natCast,hg]
   refine⟨⟨by show(0:Int)≤(s.hn:Int);omega,by show(s.hn:Int)<8;omega⟩,⟨by show(0:Int)≤0;omega,by show(0:Int)<8;omega⟩,.inl rfl,by rw [hd],?_⟩
   rw [hd]
   refine fin _ (updYes _ _ _) (fun i hi e=> ?_)
   show upd m s.hn 2 i=0
   rw [updNo _ _ e,sy.m i hi,if_neg]
   intro e2
   rcases hh i e2 with e3 | e3
   · exact e e3
   · exact e3.1 hsu
 · rw [if_neg hsu] at hx
   simp at hx
   subst hx
   obtain⟨u,hu2⟩:∃u:Nat,s.su=(u:Int):=⟨s.su.toNat,by omega⟩
   have hd:doP m o s ⟨3,s.su,s.op,0,s.hn,0⟩=(upd (upd m u 0) s.hn 2,upd o s.hn s.op,(s.now.over,[],[])):=by
     unfold doP
     rw [if_neg (by show ¬(3:Int)=1;decide),if_neg (by show ¬(3:Int)=2;decide),if_pos rfl]
     show(upd (upd m s.su.toNat 0) ((s.hn:Int)).toNat 2,upd o ((s.hn:Int)).toNat s.op,gotP s [] (s.hn:Int) s.op)=_
     rw [Int.toNat_natCast,hg,hu2,Int.toNat_natCast]
   refine⟨⟨by show(0:Int)≤s.su;omega,by show s.su<8;omega⟩,⟨by show(0:Int)≤(s.hn:Int);omega,by show(s.hn:Int)<8;omega⟩,.inr (.inr (.inl rfl)),by rw [hd],?_⟩
   rw [hd]
   refine fin _ (updYes _ _ _) (fun i hi e=> ?_)
   show upd (upd m u 0) s.hn 2 i=0
   rw [updNo _ _ e]
   by_cases e4:i=u
   · rw [e4,updYes]
   · rw [updNo _ _ e4,sy.m i hi,if_neg]
     intro e2
     rcases hh i e2 with e3 | e3
     · exact e e3
     · rw [hu2,Int.toNat_natCast] at e3;exact e4 e3.2
theorem fs_fl {tg:Option (Nat×Int)} {k:Nat} (h:s.hk=3) (ho:0≤s.ow) (hk:9≤k) (jv:Jv s) (sy:Sy s m o) (g:tg=none):Fs tg k s m o ⟨5,s.ow,s.op,0,0,0⟩ []:=by
 have hr:=jv.ok.ow
 obtain⟨u,hu⟩:∃u:Nat,s.ow=(u:Int):=⟨s.ow.toNat,by omega⟩
 have hhu:=jv.ow ho
 rw [hu,Int.toNat_natCast] at hhu
 have ho9:=sy.o u (by omega) hhu
 have hN:isN (u:Int)=true:=by simp [isN];omega
 have hd:doP m o s ⟨5,s.ow,s.op,0,0,0⟩=(m,o,wroteP s [] s.ow (o s.ow.toNat) 1):=by
   unfold doP
   rw [if_neg (by show ¬(5:Int)=1;decide),if_neg (by show ¬(5:Int)=2;decide),if_neg (by show ¬(5:Int)=3;decide),if_neg (by show ¬(5:Int)=4;decide),if_pos rfl]
 have hjv:=(wrote_sim (L:= []) (m:=s.ow) (c:=o s.ow.toNat) (p:=1) jv (by simp)).2
 have hw:∃q:Lo,wroteP s [] s.ow (o s.ow.toNat) 1=(q,[],s.discards 1)∧q.hk=0∧q.hn=0∧q.ho=s.ho∧q.ex=s.ex∧q.ops=s.ops:=by
   unfold wroteP
   rw [hu,Int.toNat_natCast,if_pos ⟨hN,by decide,by decide⟩]
   unfold wroteN
   rw [if_pos ⟨hu.symm,ho9⟩]
   split
   · exact⟨s.noPa.over,by simp [more,nextP],rfl,rfl,rfl,rfl,rfl⟩
   · exact⟨s.noPa.noOw.over,by simp [more,nextP],rfl,rfl,rfl,rfl,rfl⟩
 obtain⟨q,e1,e2,e3,e4,e5,e6⟩:=hw
 rw [e1] at hd hjv
 refine⟨⟨ho,by show s.ow<8;omega⟩,⟨by show(0:Int)≤0;omega,by show(0:Int)<8;omega⟩,by simp,by rw [hd],?_⟩
 rw [hd]
 have hlen:=discards_len s 1
 refine .done e2 e3 (fun x hx=> ?_) (by simp;omega) hjv ⟨fun i hi=>by rw [e4,e5];exact sy.m i hi,fun i hi hh=>by rw [e4] at hh;rw [e6];exact sy.o i hi hh⟩ (fun a v e=>by rw [g] at e;cases e)
 simp only [List.nil_append] at hx
 obtain⟨n,hn,rfl⟩:=List.mem_map.1 hx
 obtain⟨i,hi,rfl,_⟩:=lst_range hn
 exact⟨rfl,⟨by show(0:Int)≤(i:Int);omega,by show(i:Int)<8;omega⟩,by show(0:Int)≤0;omega,by show(0:Int)<8;omega⟩
theorem oth_of {j:Nat} (h1:s.ho j=true) (h2:¬j=s.hn) (h3:¬(¬s.su= -1∧j=s.su.toNat)):s.oth j=true:=by
 unfold Lo.oth
 by_cases e:s.su= -1
 · rw [if_pos e,updNo _ _ h2];exact h1
 · rw [if_neg e,updNo _ _ (fun e2=>h3 ⟨e,e2⟩),updNo _ _ h2];exact h1
theorem fs_drops {tg:Option (Nat×Int)} {k:Nat} {x:Od} {T:List Od} (hx:s.drops=x::T) (h:s.hk=2) (hw:s.wa=s.oth) (hs:s.su=s.sup s.hn) (hk:s.drops.length≤k) (jv:Jv s) (sy:Sy s m o) (g:tg=some (s.hn,2)):Fs tg k s m o x T:=by
 have hlen:1+T.length≤k:=by rw [hx] at hk;simp at hk;omega
 unfold Lo.drops at hx
 cases hl:lst s.wa with
 | nil=>rw [hl] at hx;cases hx
 | cons y r=>
 rw [hl] at hx
 simp only [List.map_cons,List.cons.injEq] at hx
 obtain⟨e1,e2⟩:=hx
 obtain⟨i,hi,rfl,hwi,hr⟩:=lst_head hl
 subst e1
 have hoth:=hwi
 rw [hw] at hoth
 obtain⟨o1,o2,o3⟩:=oth_at hoth
 have how:=jv.w i hwi
 have hex:¬s.ex=(i:Int):=by
   intro e
   have:=(jv.ex (by omega)).1
   omega
 have hN:isN (i:Int)=true:=by simp [isN];omega
 obtain⟨q,hq⟩:∃q,q=(s.give i).setWa i false:=⟨_,rfl⟩
 have qho:q.ho=upd s.ho i false:=by rw [hq];rfl
 have qwa:q.wa=upd s.wa i false:=by rw [hq];rfl
 have qhn:q.hn=s.hn:=by rw [hq];rfl
 have qhk:q.hk=s.hk:=by rw [hq];rfl
 have qsu:q.su=s.su:=by rw [hq];rfl
 have qop:q.op=s.op:=by rw [hq];rfl
 have qex:q.ex=s.ex:=by rw [hq];show(if s.ex=(i:Int) then -1 else s.ex)=s.ex;rw [if_neg hex]
 have qow:q.ow=s.ow:=by rw [hq];show(if s.ow=(i:Int) then -1 else s.ow)=s.ow;rw [if_neg (fun e=>how e.symm)]
 have qops:q.ops=upd s.ops i 0:=by rw [hq];rfl
 have qsup:q.sup q.hn=q.su:=by
   rw [qhn,qsu,hs]
   unfold Lo.sup
   rw [qow,qho]
   by_cases c1:s.ow≠ -1∧s.ow≠(s.hn:Int)
   · rw [if_pos c1,if_pos c1]
   · rw [if_neg c1,if_neg c1,updNo _ _ (fun e=>o2 e.symm)]
     by_cases c2:s.ho s.hn=true
     · rw [if_pos c2,if_pos c2]
     · rw [if_neg c2,if_neg c2]
       refine lowFrom_upd s.ho i 8 0 (fun e=> ?_)
       have hsl:s.su=low s.ho:=by rw [hs];unfold Lo.sup;rw [if_neg c1,if_neg c2]
       have hsi:s.su=(i:Int):=hsl.trans e
       exact o3 (by omega) (by omega)
 have qoth:q.oth=q.wa:=by
   rw [qwa,hw]
   unfold Lo.oth
   rw [qsu,qho,qhn]
   by_cases c1:s.su= -1
   · rw [if_pos c1,if_pos c1,updSwap _ _ _ o2]
   · rw [if_neg c1,if_neg c1,updSwap _ _ _ o2,updSwap _ _ _ (o3 c1)]
 have hgone:goneP s [] (i:Int) s.op=((q.isGoneQ).1,[],(q.isGoneQ).2):=by
   unfold goneP
   rw [if_pos ⟨hN,by rw [Int.toNat_natCast];exact hwi,rfl⟩,Int.toNat_natCast,hq]
   rfl
 have hd:doP m o s ⟨4,i,s.op,0,0,0⟩=(upd m i 0,o,(q.isGoneQ.1,[],q.isGoneQ.2)):=by
   unfold doP
   rw [if_neg (by show ¬(4:Int)=1;decide),if_neg (by show ¬(4:Int)=2;decide),if_neg (by show ¬(4:Int)=3;decide),if_pos rfl]
   show(upd m ((i:Int)).toNat 0,o,goneP s [] (i:Int) s.op)=_
   rw [Int.toNat_natCast,hgone]
 have hjv:Jv q.isGoneQ.1:=by
   have h9:=(gone_sim (L:= []) (m:=(i:Int)) (c:=s.op) jv).2
   rw [hgone] at h9;exact h9
 have hsy:Sy q (upd m i 0) o:=by
   refine⟨fun j hj=> ?_,fun j hj hh=> ?_⟩
   · rw [qho,qex]
     by_cases e:j=i
     · rw [e,updYes,updYes];rfl
     · rw [updNo _ _ e,updNo _ _ e];exact sy.m j hj
   · rw [qho] at hh
     rw [qops]
     by_cases e:j=i
     · rw [e,updYes] at hh;cases hh
     · rw [updNo _ _ e] at hh ⊢;exact sy.o j hj hh
 refine⟨⟨by show(0:Int)≤(i:Int);omega,by show(i:Int)<8;omega⟩,⟨by show(0:Int)≤0;omega,by show(0:Int)<8;omega⟩,by simp,by rw [hd],?_⟩
 rw [hd]
 have hlq:lst q.wa=r:=by rw [qwa];exact hr
 cases r with
 | nil=>
   have hem:emp q.wa=true:=lst_emp.1 hlq
   have hself:q.find.wait=q:=by
     have h1:q.find=q:=by
       unfold Lo.find
       rw [qsup]
     unfold Lo.wait
     rw [h1,qoth]
   have hG:q.isGoneQ=(q,q.send 3 2):=by
     unfold Lo.isGoneQ Lo.handOver
     rw [if_pos hem,hself,if_pos hem]
   rw [hG] at hjv⊢
   have hT:T= []:=by rw [← e2];rfl
   subst hT
   refine .ex (by rw [qhk];exact h) ?_ (fun j hj=> ?_) (by simp at hlen;omega) hjv hsy (by rw [qhn];exact g)
   · funext j
     by_cases c1:j<8
     · exact emp_at hem j c1
     · exact hjv.w8 j (by omega)
   · by_cases c1:j=q.hn
     · exact .inl c1
     · by_cases c2:¬q.su= -1∧j=q.su.toNat
       · exact .inr c2
       · exfalso
         have c3:=oth_of hj c1 c2
         rw [qoth] at c3
         by_cases c4:j<8
         · rw [emp_at hem j c4] at c3;cases c3
         · rw [hjv.w8 j (by omega)] at c3;cases c3
 | cons y2 r2=>
   have hem:¬emp q.wa=true:=fun e=>by rw [lst_emp.2 e] at hlq;cases hlq
   have hG:q.isGoneQ=(q,[]):=by
     unfold Lo.isGoneQ
     rw [if_neg hem]
   rw [hG] at hjv⊢
   simp only [List.append_nil]
   have hT:T=q.drops:=by
     unfold Lo.drops
     rw [hlq,qop];exact e2.symm
   rw [hT]
   refine .drops (by rw [qhk];exact h) qoth.symm qsup.symm (by rw [← hT];omega) ?_ hjv hsy (by rw [qhn];exact g)
   unfold Lo.drops
   rw [hlq]
   simp
theorem Fl.step {tg:Option (Nat×Int)} {k:Nat} {x:Od} {T:List Od} (h:Fl tg (k+1) s m o (x::T)):Fs tg k s m o x T:=by
 generalize hX:x::T=X at h
 cases h with
 | done h h2 hT hk jv sy g=>subst hX;exact fs_done h h2 hT hk jv sy g
 | sh h hs hk jv sy g=>
   obtain⟨y,hy⟩:=send_one (s:=s) (k:=2) (d:=1)
   rw [hy] at hX
   simp at hX
   obtain⟨rfl,rfl⟩:=hX
   exact fs_sh hy h hs jv sy g
 | ex h hw hh hk jv sy g=>
   obtain⟨y,hy⟩:=send_one (s:=s) (k:=3) (d:=2)
   rw [hy] at hX
   simp at hX
   obtain⟨rfl,rfl⟩:=hX
   exact fs_ex hy h hw hh jv sy g
 | drops h hw hs hk hd jv sy g=>exact fs_drops hX.symm h hw hs (by omega) jv sy g
 | fl h ho hk jv sy g=>
   simp at hX
   obtain⟨rfl,rfl⟩:=hX
   exact fs_fl h ho (by omega) jv sy g
theorem Fl.zero {tg:Option (Nat×Int)} {k:Nat} (h:Fl tg k s m o []):s.hk=0∧s.hn=0∧Tg tg m:=by
 generalize hX:([]:List Od)=X at h
 cases h with
 | done h h2 hT hk jv sy g=>exact ⟨h,h2,g⟩
 | sh h hs hk jv sy g=>
   obtain⟨y,hy⟩:=send_one (s:=s) (k:=2) (d:=1)
   rw [hy] at hX;cases hX
 | ex h hw hh hk jv sy g=>
   obtain⟨y,hy⟩:=send_one (s:=s) (k:=3) (d:=2)
   rw [hy] at hX;cases hX
 | drops h hw hs hk hd jv sy g=>exact absurd hX.symm hd
 | fl h ho hk jv sy g=>cases hX
end Go.Proofs.Ytabicgbnloabnaa
