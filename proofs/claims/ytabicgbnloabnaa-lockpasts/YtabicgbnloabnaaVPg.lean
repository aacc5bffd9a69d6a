import Derived.Test.YtabicgbnloabnaaVPf
namespace Go.Proofs.Ytabicgbnloabnaa
set_option maxRecDepth 100000
set_option linter.unusedSimpArgs false
open Go.RowKit
variable {s:Lo} {r:Rk} {l L:List Wi}
def Dc (O:List Od) (n:Nat):Prop:=∃o∈O,o.k=6∧o.t=(n:Int)
theorem Dc.left {O P:List Od} {n:Nat} (h:Dc O n):Dc (O++P) n:=by
 obtain⟨o,h1,h2⟩:=h
 exact⟨o,List.mem_append_left _ h1,h2⟩
theorem Dc.right {O P:List Od} {n:Nat} (h:Dc P n):Dc (O++P) n:=by
 obtain⟨o,h1,h2⟩:=h
 exact⟨o,List.mem_append_right _ h1,h2⟩
def Tr (O:List Od):Prop:=∀o∈O,o.k=6→0≤o.t∧o.t<8
theorem Tr.app {O P:List Od} (h:Tr O) (k:Tr P):Tr (O++P):=fun o ho=>(List.mem_append.1 ho).elim (h o) (k o)
theorem Tr.nil:Tr []:=fun o ho=>by cases ho
theorem Tr.not {O:List Od} (h:∀o∈O,¬o.k=6):Tr O:=fun o ho e=>absurd e (h o ho)
theorem needless_pa {n:Nat} (h:s.pa n=true):s.needless.1.pa n=true∨Dc s.needless.2 n:=by
 by_cases e:n=s.hn
 · subst e;exact .inr ⟨⟨6,s.hn,0,0,0,2147483647⟩,by simp [Lo.needless],rfl,rfl⟩
 · refine .inl ?_
   show upd s.pa s.hn false n=true
   rw [updNo _ _ e];exact h
theorem begin_pa {n:Nat} (h:s.pa n=true):s.begin.1.pa n=true∨Dc s.begin.2 n:=by
 unfold Lo.begin
 split
 · unfold Lo.bSh;split
   · exact .inl h
   · exact .inl h
 · split
   · unfold Lo.bEx;split
     · exact .inl h
     · exact .inl h
   · have h1:(s.setPa s.hn true).pa n=true:=by
       show upd s.pa s.hn true n=true
       unfold upd;split
       · rfl
       · exact h
     unfold Lo.bCl;split
     · exact needless_pa h1
     · exact .inl h1
theorem begin_ow:s.begin.1.ow=s.ow:=by
 unfold Lo.begin Lo.bSh Lo.bEx Lo.bCl
 split
 · split <;> rfl
 · split
   · split <;> rfl
   · split <;> rfl
theorem begin_pa2 {n:Nat} (ho:¬s.ow= -1) (h:s.pa n=true):s.begin.1.pa n=true:=by
 unfold Lo.begin
 split
 · unfold Lo.bSh;split
   · exact h
   · exact h
 · split
   · unfold Lo.bEx;split
     · exact h
     · exact h
   · unfold Lo.bCl
     rw [if_neg ho]
     show upd s.pa s.hn true n=true
     unfold upd;split
     · rfl
     · exact h
theorem handOver_k {o:Od} (h:o∈s.handOver.2):¬o.k=6:=by
 unfold Lo.handOver at h
 simp only at h
 split at h
 · unfold Lo.send at h
   split at h <;> (simp at h;subst h;simp)
 · unfold Lo.drops at h
   obtain⟨n,_,rfl⟩:=List.mem_map.1 h
   simp
theorem handOn_k {o:Od} (h:o∈s.handOn.2):¬o.k=6:=by
 unfold Lo.handOn Lo.send at h
 simp only at h
 split at h <;> (simp at h;subst h;simp)
theorem begin_tr (hn:s.hn<8):Tr s.begin.2:=by
 unfold Lo.begin
 split
 · unfold Lo.bSh;split
   · exact Tr.nil
   · exact Tr.not (fun o ho=>handOn_k ho)
 · split
   · unfold Lo.bEx;split
     · exact Tr.nil
     · exact Tr.not (fun o ho=>handOver_k ho)
   · unfold Lo.bCl;split
     · intro o ho _
       simp [Lo.needless] at ho;subst ho
       exact⟨by show(0:Int)≤(s.hn:Int);omega,by show(s.hn:Int)<8;omega⟩
     · intro o ho e
       simp at ho;subst ho;simp at e
theorem next_pa:∀(L:List Wi) (s:Lo) (n:Nat),s.pa n=true→(nextP s L).1.pa n=true∨Dc (nextP s L).2.2 n
 | [],s,n,h=> .inl h
 | x::l,s,n,h=>by
   have h1:=begin_pa (s:=s.take x) (n:=n) h
   rw [nextP]
   split
   · exact h1
   · rcases h1 with h1 | h1
     · rcases next_pa l _ n h1 with h2 | h2
       · exact .inl h2
       · exact .inr h2.right
     · exact .inr h1.left
theorem next_ow:∀(L:List Wi) (s:Lo),(nextP s L).1.ow=s.ow
 | [],s=>rfl
 | x::l,s=>by
   have h1:(s.take x).begin.1.ow=s.ow:=begin_ow
   rw [nextP]
   split
   · exact h1
   · exact(next_ow l _).trans h1
theorem next_pa2:∀(L:List Wi) (s:Lo) (n:Nat),¬s.ow= -1→s.pa n=true→(nextP s L).1.pa n=true
 | [],s,n,_,h=>h
 | x::l,s,n,ho,h=>by
   have h0:(s.take x).begin.1.ow=s.ow:=begin_ow
   have h1:=begin_pa2 (s:=s.take x) (n:=n) ho h
   rw [nextP]
   split
   · exact h1
   · exact next_pa2 l _ n (by rw [h0];exact ho) h1
theorem next_tr:∀(L:List Wi) (s:Lo),(∀x∈L,x.Ok)→Tr (nextP s L).2.2
 | [],s,_=>Tr.nil
 | x::l,s,h=>by
   have h1:=begin_tr (s:=s.take x) (h x (by simp)).1
   rw [nextP]
   split
   · exact h1
   · exact h1.app (next_tr l _ (fun y hy=>h y (by simp [hy])))
theorem lst_mem {f:Nat→Bool} {n:Nat} (hn:n<8) (h:f n=true):(n:Int)∈lst f:=by
 have key:∀j,n<j→(n:Int)∈lstTo f j:=by
   intro j
   induction j with
   | zero=>intro hj;omega
   | succ j ih=>
     intro hj
     rw [lstTo]
     by_cases e:n=j
     · subst e;rw [h];exact List.mem_append_right _ (by simp)
     · exact List.mem_append_left _ (ih (by omega))
 exact key 8 hn
theorem lst_range {f:Nat→Bool} {m:Int} (h:m∈lst f):∃n:Nat,n<8∧m=(n:Int)∧f n=true:=by
 have key:∀j,j≤8→m∈lstTo f j→∃n:Nat,n<8∧m=(n:Int)∧f n=true:=by
   intro j
   induction j with
   | zero=>intro _ hm;cases hm
   | succ j ih=>
     intro hj hm
     rw [lstTo] at hm
     rcases List.mem_append.1 hm with h1 | h1
     · exact ih (by omega) h1
     · cases hf:f j with
       | false=>rw [hf] at h1;cases h1
       | true=>rw [hf] at h1;simp at h1;exact⟨j,by omega,h1,hf⟩
 exact key 8 (by omega) h
theorem disc_dc {p:Int} {n:Nat} (hn:n<8) (h:s.pa n=true):Dc (s.discards p) n:=⟨⟨6,n,0,0,0,p⟩,List.mem_map.2 ⟨_,lst_mem hn h,rfl⟩,rfl,rfl⟩
theorem disc_tr {p:Int} :Tr (s.discards p):=by
 intro o ho _
 obtain⟨m,hm,rfl⟩:=List.mem_map.1 ho
 obtain⟨n,hn,rfl,_⟩:=lst_range hm
 exact⟨by show(0:Int)≤(n:Int);omega,by show(n:Int)<8;omega⟩
theorem isGone_pa (n:Nat):(s.isGone n).1.pa=s.pa:=by unfold Lo.isGone;split <;> rfl
theorem isGone_k {n:Nat} {o:Od} (h:o∈(s.isGone n).2):¬o.k=6:=by
 unfold Lo.isGone at h
 split at h
 · exact handOver_k h
 · cases h
theorem anew_pa:s.anew.1.pa=s.pa:=by unfold Lo.anew;split <;> rfl
theorem anew_k {o:Od} (h:o∈s.anew.2):¬o.k=6:=by
 unfold Lo.anew at h
 split at h
 · exact handOn_k h
 · exact handOver_k h
theorem now_pa {n:Nat} (h:s.pa n=true):s.now.pa n=true:=by
 unfold Lo.now
 split
 · unfold Lo.nowSh;split <;> exact h
 · unfold Lo.nowEx;split
   · show upd s.pa s.su.toNat true n=true
     unfold upd;split
     · rfl
     · exact h
   · exact h
structure Ps (s:Lo) (s1:Lo) (O:List Od):Prop where
 pa:∀n,n<8→s.pa n=true→s1.pa n=true∨Dc O n
 tr:Tr O
theorem Ps.none (s:Lo):Ps s s []:=⟨fun _ _ h=> .inl h,Tr.nil⟩
theorem Ps.same {s1:Lo} {O:List Od} (h:s1.pa=s.pa) (hO:∀o∈O,¬o.k=6):Ps s s1 O:=⟨fun n _ e=> .inl (by rw [h];exact e),Tr.not hO⟩
theorem ask_ps {x:Wi} (ha:∀y∈L,y.Ok) (hx:x.Ok):Ps s (askP s L x).1 (askP s L x).2.2:=by
 unfold askP
 split
 · exact Ps.none s
 · split
   · exact Ps.none s
   · refine⟨fun n _ h=>next_pa _ _ n h,next_tr _ _ (fun y hy=> ?_)⟩
     rcases List.mem_append.1 hy with h1 | h1
     · exact ha y h1
     · simp at h1;subst h1;exact hx
theorem askI_ps {m k:Int} (ha:∀y∈L,y.Ok) (hk:k=1∨k=2∨k=3):Ps s (askI s L m k).1 (askI s L m k).2.2:=by
 unfold askI
 split
 · rename_i hm
   have h1:0≤m∧m<8:=by simpa [isN] using hm
   exact ask_ps ha ⟨by simp;omega,hk⟩
 · exact Ps.none s
theorem pdo_ps (h:s.Ok) (ha:∀y∈L,y.Ok) (r:Rk) (x:Sp):Ps s (pdo s L r x).1 (pdo s L r x).2.2:=by
 unfold pdo
 repeat' split
 · unfold wantP
   split
   · exact askI_ps ha (by simp)
   · split
     · exact askI_ps ha (by simp)
     · exact Ps.none s
 · exact askI_ps ha (by simp)
 · unfold goneP
   split
   · exact Ps.same (isGone_pa _) (fun o ho=>isGone_k ho)
   · exact Ps.none s
 · unfold gotP
   split
   · exact⟨fun n _ e=>next_pa _ _ n (now_pa e),next_tr _ _ ha⟩
   · exact Ps.none s
 · unfold relP
   split
   · unfold relN
     split
     · exact Ps.same (isGone_pa _) (fun o ho=>isGone_k ho)
     · split
       · exact Ps.same anew_pa (fun o ho=>anew_k ho)
       · split
         · refine⟨fun n _ e=> ?_,?_⟩
           · rcases needless_pa (s:=s.give x.n.toNat) (n:=n) e with h1 | h1
             · rcases next_pa L _ n h1 with h2 | h2
               · exact .inl h2
               · exact .inr h2.right
             · exact .inr h1.left
           · refine Tr.app (fun o ho _=> ?_) (next_tr _ _ ha)
             have hn:=h.hn
             simp [Lo.needless] at ho;subst ho
             exact⟨by show(0:Int)≤(s.hn:Int);omega,by show(s.hn:Int)<8;omega⟩
         · exact⟨fun _ _ e=> .inl e,Tr.nil⟩
   · exact Ps.none s
 · unfold wroteP
   split
   · unfold wroteN
     split
     · split
       · split
         · exact⟨fun n hn e=> .inr (disc_dc hn e).left,disc_tr.app (next_tr _ _ ha)⟩
         · exact⟨fun n hn e=> .inr (disc_dc hn e),disc_tr⟩
       · split
         · exact⟨fun n hn e=> .inr (disc_dc hn e).left,disc_tr.app (next_tr _ _ ha)⟩
         · exact⟨fun n hn e=> .inr (disc_dc hn e),disc_tr⟩
     · exact⟨fun n _ e=> .inl e,disc_tr⟩
   · exact Ps.none s
 · exact Ps.none s
def K2 (s:Lo):Prop:=s.hk=2→s.ow= -1∨s.ow=(s.hn:Int)∨s.su=s.ow
theorem k2_over:K2 s.handOver.1:=by
 intro _
 by_cases h1:s.ow= -1
 · exact .inl h1
 · by_cases h2:s.ow=(s.hn:Int)
   · exact .inr (.inl h2)
   · refine .inr (.inr ?_)
     show s.sup s.hn=s.ow
     unfold Lo.sup
     rw [if_pos ⟨h1,h2⟩]
theorem k2_no (h:¬s.hk=2):K2 s:=fun e=>absurd e h
theorem begin_k2:K2 s.begin.1:=by
 unfold Lo.begin
 split
 · rename_i h1
   unfold Lo.bSh;split
   · exact k2_no (by show ¬(0:Int)=2;decide)
   · exact k2_no (by show ¬s.hk=2;omega)
 · split
   · unfold Lo.bEx;split
     · exact k2_no (by show ¬(0:Int)=2;decide)
     · exact k2_over
   · rename_i h2
     unfold Lo.bCl;split
     · exact k2_no (by show ¬(0:Int)=2;decide)
     · exact k2_no h2
theorem next_k2:∀(L:List Wi) (s:Lo),K2 s→K2 (nextP s L).1
 | [],s,h=>h
 | x::l,s,_=>by
   rw [nextP]
   split
   · exact begin_k2
   · exact next_k2 l _ begin_k2
theorem give_k2 (h:K2 s) (n:Nat):K2 (s.give n):=by
 intro e
 show(if s.ow=(n:Int) then -1 else s.ow)= -1∨(if s.ow=(n:Int) then -1 else s.ow)=(s.hn:Int)∨s.su=(if s.ow=(n:Int) then -1 else s.ow)
 split
 · exact .inl rfl
 · exact h e
theorem isGone_k2 (h:K2 s) (n:Nat):K2 (s.isGone n).1:=by
 unfold Lo.isGone
 split
 · exact k2_over
 · exact h
theorem askI_k2 (h:K2 s) {m k:Int} :K2 (askI s L m k).1:=by
 unfold askI
 split
 · unfold askP
   split
   · exact h
   · split
     · exact h
     · exact next_k2 _ _ h
 · exact h
theorem over_k2:K2 s.over:=k2_no (by show ¬(0:Int)=2;decide)
theorem pdo_k2 (h:K2 s) (r:Rk) (x:Sp):K2 (pdo s L r x).1:=by
 unfold pdo
 repeat' split
 · unfold wantP
   split
   · exact askI_k2 h
   · split
     · exact askI_k2 h
     · exact h
 · exact askI_k2 h
 · unfold goneP
   split
   · exact isGone_k2 (give_k2 h _) _
   · exact h
 · unfold gotP
   split
   · exact next_k2 _ _ over_k2
   · exact h
 · unfold relP
   split
   · unfold relN
     split
     · exact isGone_k2 (give_k2 h _) _
     · split
       · unfold Lo.anew
         split
         · rename_i e;exact k2_no (by show ¬s.hk=2;have:s.hk=1:=e;omega)
         · exact k2_over
       · split
         · exact next_k2 _ _ over_k2
         · exact give_k2 h _
   · exact h
 · unfold wroteP
   split
   · unfold wroteN
     split
     · split
       · split
         · exact next_k2 _ _ over_k2
         · exact h
       · split
         · exact next_k2 _ _ over_k2
         · exact fun _=> .inl rfl
     · exact h
   · exact h
 · exact h
theorem got_past (hj:Jv s) (h2:K2 s) {m c:Int} (h0:0≤s.ow) (hne:¬s.ow=(gotP s L m c).1.ow):(gotP s L m c).1.pa s.ow.toNat=true:=by
 unfold gotP at hne⊢
 split at hne
 · rename_i hc
   rw [if_pos hc,next_ow] at*
   unfold Lo.now at hne⊢
   by_cases h1:s.hk=1
   · exfalso
     apply hne
     rw [if_pos h1]
     unfold Lo.nowSh Lo.over
     split <;> rfl
   · rw [if_neg h1] at hne⊢
     have hk2:s.hk=2:=by
       have hs:=hc.1
       unfold Lo.sends at hs
       rw [busy_eq hj] at hs
       rcases hj.hk with ⟨e,_⟩ | e | e | e
       · simp [e] at hs
       · exact absurd e h1
       · exact e
       · simp [e] at hs
     have how:(s.nowEx s.hn).over.ow=(s.hn:Int):=by unfold Lo.nowEx Lo.over;split <;> rfl
     rw [how] at hne
     have hsu:s.su=s.ow:=by
       rcases h2 hk2 with e | e | e
       · omega
       · exact absurd e hne
       · exact e
     refine next_pa2 _ _ _ (by rw [how];omega) ?_
     unfold Lo.nowEx
     rw [if_pos ⟨by omega,hsu⟩]
     show upd s.pa s.su.toNat true s.ow.toNat=true
     rw [hsu,updYes]
 · exact absurd rfl hne
end Go.Proofs.Ytabicgbnloabnaa
