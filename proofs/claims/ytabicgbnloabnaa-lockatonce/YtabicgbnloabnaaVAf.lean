import Derived.Test.YtabicgbnloabnaaVAe
namespace Go.Proofs.Ytabicgbnloabnaa
set_option maxRecDepth 100000
set_option linter.unusedSimpArgs false
open Go.RowKit
variable {s:Lo} {m o:Nat→Int}
theorem Sy.same {q:Lo} (h:Sy s m o) (h1:q.ho=s.ho) (h2:q.ex=s.ex) (h3:q.ops=s.ops):Sy q m o:=⟨fun i hi=>by rw [h1,h2];exact h.m i hi,fun i hi hh=>by rw [h1] at hh;rw [h3];exact h.o i hi hh⟩
theorem Sy.none (h:Sy s m o) {a:Nat} (ha:a<8) (hm:m a=0):s.ho a=false:=by
 have:=h.m a ha
 cases hh:s.ho a with
 | false=>rfl
 | true=>rw [hh,if_pos rfl] at this;split at this <;> omega
theorem Sy.notX (h:Sy s m o) (hj:Jv s) {a:Nat} (ha:a<8) (hm:¬m a=2):¬s.ex=(a:Int):=by
 intro e
 have h1:=(hj.ex (by omega)).1
 have h2:=hj.ow (by omega)
 rw [h1,e,Int.toNat_natCast] at h2
 have:=h.m a ha
 rw [if_pos h2,if_pos e] at this
 exact hm this
theorem ask_idle {a:Nat} {k:Int} (ha:a<8) (h1:s.hk=0) (h2:s.hn=0) (hk:k=1∨k=2∨k=3):askI s [] (a:Int) k=nextP s [⟨a,k⟩]:=by
 unfold askI
 rw [if_pos (by simp [isN];omega),Int.toNat_natCast]
 unfold askP
 rw [if_neg,if_neg (by rw [busy_f h1 h2];simp)]
 · rfl
 · rintro (e | e)
   · have:s.hk=k:=congrArg Wi.k e
     omega
   · cases e
theorem st_sh {a:Nat} (ha:a<8) (h1:s.hk=0) (h2:s.hn=0) (jv:Jv s) (sy:Sy s m o) (hm:m a=0):(wantP s [] (a:Int) 1).2.1= []∧(wantP s [] (a:Int) 1).1.op=s.op+1∧Fl (some (a,1)) 1 (wantP s [] (a:Int) 1).1 m o (wantP s [] (a:Int) 1).2.2:=by
 have hjv:=(want_sim (L:= []) (m:=(a:Int)) (md:=1) jv (by simp)).2
 have hw:wantP s [] (a:Int) 1=((s.take ⟨a,1⟩).find,[],(s.take ⟨a,1⟩).find.send 2 1):=by
   unfold wantP
   rw [if_pos rfl,ask_idle ha h1 h2 (by simp),nextP]
   have hb:(s.take ⟨a,1⟩).begin=(s.take ⟨a,1⟩).handOn:=by
     unfold Lo.begin Lo.bSh
     rw [if_pos (show(s.take ⟨a,1⟩).hk=1 from rfl),if_neg]
     show ¬s.ho a=true
     rw [sy.none ha hm];simp
   rw [hb,if_pos (show(s.take ⟨a,1⟩).handOn.1.busy=true from busy_t (.inl rfl))]
   rfl
 rw [hw] at hjv⊢
 refine⟨rfl,rfl,.sh rfl (fun hs=> ?_) (by omega) hjv (sy.same rfl rfl rfl) rfl⟩
 exact sup_holds (s:=s.take ⟨a,1⟩) ⟨take_ok jv.ok ⟨ha,.inl rfl⟩,jv.ex,jv.ow,jv.h8⟩ a hs
theorem st_ex {a:Nat} (ha:a<8) (h1:s.hk=0) (h2:s.hn=0) (jv:Jv s) (sy:Sy s m o) (hm:¬m a=2):(wantP s [] (a:Int) 2).2.1= []∧(wantP s [] (a:Int) 2).1.op=s.op+1∧Fl (some (a,2)) 9 (wantP s [] (a:Int) 2).1 m o (wantP s [] (a:Int) 2).2.2:=by
 have hjv:=(want_sim (L:= []) (m:=(a:Int)) (md:=2) jv (by simp)).2
 have hw:wantP s [] (a:Int) 2=((s.take ⟨a,2⟩).handOver.1,[],(s.take ⟨a,2⟩).handOver.2):=by
   unfold wantP
   rw [if_neg (by decide),if_pos rfl,ask_idle ha h1 h2 (by simp),nextP]
   have hb:(s.take ⟨a,2⟩).begin=(s.take ⟨a,2⟩).handOver:=by
     unfold Lo.begin Lo.bEx
     rw [if_neg (show ¬(s.take ⟨a,2⟩).hk=1 by show ¬(2:Int)=1;decide),if_pos (show(s.take ⟨a,2⟩).hk=2 from rfl),if_neg]
     exact sy.notX jv ha hm
   rw [hb,if_pos (show(s.take ⟨a,2⟩).handOver.1.busy=true from busy_t (.inr (.inl rfl)))]
 rw [hw] at hjv⊢
 refine⟨rfl,rfl,?_⟩
 obtain⟨q,hq⟩:∃q,q=(s.take ⟨a,2⟩).find.wait:=⟨_,rfl⟩
 have hO:(s.take ⟨a,2⟩).handOver=(q,if emp q.wa then q.send 3 2 else q.drops):=by rw [hq];rfl
 rw [hO] at hjv⊢
 have hsy:Sy q m o:=sy.same (by rw [hq];rfl) (by rw [hq];rfl) (by rw [hq];rfl)
 have hk2:q.hk=2:=by rw [hq];rfl
 have hn2:q.hn=a:=by rw [hq];rfl
 have hoth:q.wa=q.oth:=by rw [hq];rfl
 by_cases he:emp q.wa=true
 · show Fl _ _ q m o (if emp q.wa then q.send 3 2 else q.drops)
   rw [if_pos he]
   refine .ex hk2 ?_ (fun j hj=> ?_) (by omega) hjv hsy (by rw [hn2])
   · funext j
     by_cases c1:j<8
     · exact emp_at he j c1
     · exact hjv.w8 j (by omega)
   · by_cases c1:j=q.hn
     · exact .inl c1
     · by_cases c2:¬q.su= -1∧j=q.su.toNat
       · exact .inr c2
       · exfalso
         have c3:=oth_of hj c1 c2
         rw [← hoth] at c3
         by_cases c4:j<8
         · rw [emp_at he j c4] at c3;cases c3
         · rw [hjv.w8 j (by omega)] at c3;cases c3
 · show Fl _ _ q m o (if emp q.wa then q.send 3 2 else q.drops)
   rw [if_neg he]
   refine .drops hk2 hoth (by rw [hq];rfl) (by have:=drops_len q;omega) ?_ hjv hsy (by rw [hn2])
   intro e
   unfold Lo.drops at e
   rw [List.map_eq_nil_iff] at e
   exact he (lst_emp.1 e)
theorem st_cl {a:Nat} (ha:a<8) (h1:s.hk=0) (h2:s.hn=0) (jv:Jv s) (sy:Sy s m o):(askI s [] (a:Int) 3).2.1= []∧(askI s [] (a:Int) 3).1.op=s.op+1∧Fl none 10 (askI s [] (a:Int) 3).1 m o (askI s [] (a:Int) 3).2.2:=by
 have hjv:=(askI_sim (L:= []) (m:=(a:Int)) (k:=3) jv (by simp) (by simp)).2
 have hr:=jv.ok.ow
 rw [ask_idle ha h1 h2 (by simp)] at hjv⊢
 have hb:(s.take ⟨a,3⟩).begin=(s.take ⟨a,3⟩).bCl:=by
   unfold Lo.begin
   rw [if_neg (show ¬(s.take ⟨a,3⟩).hk=1 by show ¬(3:Int)=1;decide),if_neg (show ¬(s.take ⟨a,3⟩).hk=2 by show ¬(3:Int)=2;decide)]
 by_cases ho:s.ow= -1
 · have hc:(s.take ⟨a,3⟩).bCl=((s.take ⟨a,3⟩).setPa a true).needless:=by
     unfold Lo.bCl
     rw [if_pos (show(s.take ⟨a,3⟩).ow= -1 from ho)];rfl
   have hN:nextP s [⟨a,3⟩]=(((s.take ⟨a,3⟩).setPa a true).needless.1,[],[⟨6,a,0,0,0,2147483647⟩]):=by
     rw [nextP,hb,hc,if_neg (by rw [busy_f (s:=((s.take ⟨a,3⟩).setPa a true).needless.1) rfl rfl];simp)]
     rfl
   rw [hN] at hjv⊢
   refine⟨rfl,rfl,.done rfl rfl (fun x hx=> ?_) (by simp) hjv (sy.same rfl rfl rfl) (fun _ _ e=>by cases e)⟩
   simp at hx
   subst hx
   exact⟨rfl,⟨by show(0:Int)≤(a:Int);omega,by show(a:Int)<8;omega⟩,by show(0:Int)≤0;omega,by show(0:Int)<8;omega⟩
 · have hc:(s.take ⟨a,3⟩).bCl=((s.take ⟨a,3⟩).setPa a true,[⟨5,s.ow,s.op+1,0,0,0⟩]):=by
     unfold Lo.bCl
     rw [if_neg (show ¬(s.take ⟨a,3⟩).ow= -1 from ho)];rfl
   have hN:nextP s [⟨a,3⟩]=((s.take ⟨a,3⟩).setPa a true,[],[⟨5,s.ow,s.op+1,0,0,0⟩]):=by
     rw [nextP,hb,hc,if_pos (show((s.take ⟨a,3⟩).setPa a true).busy=true from busy_t (.inr (.inr rfl)))]
   rw [hN] at hjv⊢
   exact⟨rfl,rfl,.fl (s:=(s.take ⟨a,3⟩).setPa a true) rfl (by show 0≤s.ow;omega) (by omega) hjv (sy.same rfl rfl rfl) rfl⟩
theorem st_rel {a:Nat} {c:Int} (ha:a<8) (h1:s.hk=0) (h2:s.hn=0) (jv:Jv s) (sy:Sy s m o):relP s [] (a:Int) c=(s.give a,[],[])∧Fl none 0 (s.give a) (upd m a 0) o []:=by
 have hwa:=jv.wa (by omega)
 have hr:relP s [] (a:Int) c=(s.give a,[],[]):=by
   unfold relP
   rw [if_pos (by simp [isN];omega),Int.toNat_natCast]
   unfold relN
   rw [if_neg (show ¬(s.give a).wa a=true by show ¬s.wa a=true;rw [hwa];simp [no8]),if_neg,if_neg (by omega)]
   rintro ⟨e,_⟩
   have hb:(s.give a).busy=false:=busy_f h1 h2
   unfold Lo.sends at e
   rw [hb] at e
   cases e
 have hjv:=(rel_sim (L:= []) (m:=(a:Int)) (c:=c) jv (by simp)).2
 rw [hr] at hjv
 refine⟨hr,.done h1 h2 (by simp) (by simp) hjv ⟨fun i hi=> ?_,fun i hi hh=> ?_⟩ (fun _ _ e=>by cases e)⟩
 · show upd m a 0 i=if upd s.ho a false i=true then (if (if s.ex=(a:Int) then -1 else s.ex)=(i:Int) then 2 else 1) else 0
   by_cases e:i=a
   · rw [e,updYes,updYes];rfl
   · rw [updNo _ _ e,updNo _ _ e,sy.m i hi]
     split
     · by_cases e2:s.ex=(a:Int)
       · rw [if_pos e2,if_neg (by omega),if_neg (by omega)]
       · rw [if_neg e2]
     · rfl
 · have hh2:upd s.ho a false i=true:=hh
   show o i=upd s.ops a 0 i
   by_cases e:i=a
   · rw [e,updYes] at hh2;cases hh2
   · rw [updNo _ _ e] at hh2 ⊢;exact sy.o i hi hh2
theorem st_none {tg:Option (Nat×Int)} (h1:s.hk=0) (h2:s.hn=0) (jv:Jv s) (sy:Sy s m o) (g:Tg tg m):Fl tg 0 s m o []:= .done h1 h2 (by simp) (by simp) jv sy g
theorem doP_op (m o:Nat→Int) (s:Lo) (x:Od):(doP m o s x).2.2.1.op=s.op:=by
 have hg:∀a c,(gotP s [] a c).1.op=s.op:=by
   intro a c
   unfold gotP
   split
   · show(nextP s.now.over []).1.op=s.op
     rw [nextP];exact now_op
   · rfl
 unfold doP
 repeat' split
 · exact hg _ _
 · exact hg _ _
 · exact hg _ _
 · unfold goneP
   split
   · simp only [isGone_op];rfl
   · rfl
 · unfold wroteP
   split
   · unfold wroteN
     split
     · split
       · split
         · rfl
         · rfl
       · split
         · rfl
         · rfl
     · rfl
   · rfl
 · rfl
end Go.Proofs.Ytabicgbnloabnaa
