import Derived.Test.YtabicgbnloabnaaUPg
namespace Go.Proofs.Ytabicgbnloabnaa
set_option maxRecDepth 100000
set_option linter.unusedSimpArgs false
open Go.RowKit
variable {s:Lo} {L:List Wi}
def Td (O:List Od) (n:Int):Prop:=∃o∈O,o.o=n∧¬o.k=6
theorem Td.left {O P:List Od} {n:Int} (h:Td O n):Td (O++P) n:=by obtain⟨o,h1,h2⟩:=h;exact⟨o,List.mem_append_left _ h1,h2⟩
theorem Td.right {O P:List Od} {n:Int} (h:Td P n):Td (O++P) n:=by obtain⟨o,h1,h2⟩:=h;exact⟨o,List.mem_append_right _ h1,h2⟩
theorem handOn_td:Td s.handOn.2 s.op:=by
 unfold Lo.handOn Lo.send
 simp only
 split
 · exact⟨_,List.mem_singleton.2 rfl,rfl,by simp⟩
 · exact⟨_,List.mem_singleton.2 rfl,rfl,by simp⟩
theorem handOver_td:Td s.handOver.2 s.op:=by
 unfold Lo.handOver
 simp only
 split
 · unfold Lo.send
   split
   · exact⟨_,List.mem_singleton.2 rfl,rfl,by simp⟩
   · exact⟨_,List.mem_singleton.2 rfl,rfl,by simp⟩
 · rename_i he
   unfold Lo.drops
   cases hl:lst s.find.wait.wa with
   | nil=>exact absurd (lst_emp.1 hl) he
   | cons n r=>exact ⟨⟨4,n,s.op,0,0,0⟩,List.mem_map.2 ⟨n,by simp,rfl⟩,rfl,by simp⟩
theorem begin_td (h:s.begin.1.busy=true):Td s.begin.2 s.begin.1.op:=by
 rw [begin_op]
 unfold Lo.begin at h⊢
 split
 · rename_i h1
   rw [if_pos h1] at h
   unfold Lo.bSh at h⊢
   split
   · rename_i h2;rw [if_pos h2,busy_f (s:=s.over) rfl rfl] at h;cases h
   · exact handOn_td
 · rename_i h1
   rw [if_neg h1] at h
   split
   · rename_i h2
     rw [if_pos h2] at h
     unfold Lo.bEx at h⊢
     split
     · rename_i h3;rw [if_pos h3,busy_f (s:=s.over) rfl rfl] at h;cases h
     · exact handOver_td
   · rename_i h2
     rw [if_neg h2] at h
     unfold Lo.bCl at h⊢
     split
     · rename_i h3;rw [if_pos h3,busy_f (s:=(s.setPa s.hn true).needless.1) rfl rfl] at h;cases h
     · exact⟨_,List.mem_singleton.2 rfl,rfl,by simp⟩
theorem next_td:∀(L:List Wi) (s:Lo),(∀x∈L,x.Ok)→s.busy=false→(nextP s L).1.busy=true→Td (nextP s L).2.2 (nextP s L).1.op
 | [],s,_,hb,h=>by rw [nextP] at h;rw [hb] at h;cases h
 | x::l,s,ha,_,h=>by
   rw [nextP] at h⊢
   split
   · rename_i e
     exact begin_td e
   · rename_i e
     rw [if_neg e] at h
     exact(next_td l _ (fun y hy=>ha y (by simp [hy])) (by simpa using e) h).right
theorem next_drop:∀(L:List Wi) (s:Lo),∃d,d≤L.length∧(nextP s L).2.1=L.drop d
 | [],s=>⟨0,by simp,rfl⟩
 | x::l,s=>by
   rw [nextP]
   split
   · exact⟨1,by simp,rfl⟩
   · obtain⟨d,h1,h2⟩:=next_drop l (s.take x).begin.1
     exact⟨d+1,by simp;omega,by rw [List.drop_succ_cons];exact h2⟩
structure Wl (s s1:Lo) (L L1:List Wi) (O:List Od):Prop where
 w:s1.busy=true→Td O s1.op∨(s.busy=true∧s1.op=s.op)
 d:∃d,d≤L.length∧∃E:List Wi,E.length≤1∧L1=L.drop d++E
theorem Wl.none (s:Lo) (L:List Wi):Wl s s L L []:=⟨fun h=> .inr ⟨h,rfl⟩,0,by omega,[],by simp,by simp⟩
theorem Wl.told {s1:Lo} {O:List Od} (h:Td O s1.op):Wl s s1 L L O:=⟨fun _=> .inl h,0,by omega,[],by simp,by simp⟩
theorem Wl.same {s1:Lo} {O:List Od} (h1:s1.busy=s.busy) (h2:s1.op=s.op):Wl s s1 L L O:=⟨fun h=> .inr ⟨by rw [← h1];exact h,h2⟩,0,by omega,[],by simp,by simp⟩
theorem Wl.next {q:Lo} {O:List Od} (ha:∀x∈L,x.Ok) (hq:q.busy=false):Wl s (nextP q L).1 L (nextP q L).2.1 (O++(nextP q L).2.2):=by
 obtain⟨d,h1,h2⟩:=next_drop L q
 exact⟨fun h=> .inl (next_td L q ha hq h).right,d,h1,[],by simp,by rw [h2];simp⟩
theorem isGone_wl (n:Nat):Wl s (s.isGone n).1 L L (s.isGone n).2:=by
 unfold Lo.isGone
 split
 · exact Wl.told handOver_td
 · exact Wl.same rfl rfl
theorem ask_wl {x:Wi} (ha:∀y∈L,y.Ok) (hb:s.busy=false→L= []) (hx:x.Ok):Wl s (askP s L x).1 L (askP s L x).2.1 (askP s L x).2.2:=by
 unfold askP
 split
 · exact Wl.none s L
 · split
   · exact⟨fun h=> .inr ⟨h,rfl⟩,0,by omega,[x],by simp,by simp⟩
   · rename_i e
     have e':s.busy=false:=by simpa using e
     have hl:=hb e'
     subst hl
     obtain⟨d,h1,h2⟩:=next_drop [x] s
     refine⟨fun h=> .inl (next_td [x] s (fun y hy=>by simp at hy;subst hy;exact hx) e' h),0,by omega,[x].drop d,by simp,?_⟩
     rw [List.nil_append];simpa using h2
theorem askI_wl {m k:Int} (ha:∀y∈L,y.Ok) (hb:s.busy=false→L= []) (hk:k=1∨k=2∨k=3):Wl s (askI s L m k).1 L (askI s L m k).2.1 (askI s L m k).2.2:=by
 unfold askI
 split
 · rename_i hm
   have h1:0≤m∧m<8:=by simpa [isN] using hm
   exact ask_wl ha hb ⟨by simp;omega,hk⟩
 · exact Wl.none s L
theorem pdo_wl (ha:∀y∈L,y.Ok) (hb:s.busy=false→L= []) (r:Rk) (x:Sp):Wl s (pdo s L r x).1 L (pdo s L r x).2.1 (pdo s L r x).2.2:=by
 unfold pdo
 repeat' split
 · unfold wantP
   split
   · exact askI_wl ha hb (by simp)
   · split
     · exact askI_wl ha hb (by simp)
     · exact Wl.none s L
 · exact askI_wl ha hb (by simp)
 · unfold goneP
   split
   · exact⟨(isGone_wl (s:=s.give x.n.toNat) (L:=L) x.n.toNat).w,(isGone_wl (s:=s.give x.n.toNat) (L:=L) x.n.toNat).d⟩
   · exact Wl.none s L
 · unfold gotP
   split
   · have h9:=Wl.next (s:=s) (O:= []) (q:=s.now.over) ha (busy_f rfl rfl)
     simpa using h9
   · exact Wl.none s L
 · unfold relP
   split
   · unfold relN
     split
     · exact⟨(isGone_wl (s:=s.give x.n.toNat) (L:=L) x.n.toNat).w,(isGone_wl (s:=s.give x.n.toNat) (L:=L) x.n.toNat).d⟩
     · split
       · unfold Lo.anew
         split
         · exact Wl.told handOn_td
         · exact Wl.told handOver_td
       · split
         · exact Wl.next ha (busy_f rfl rfl)
         · exact Wl.same rfl rfl
   · exact Wl.none s L
 · unfold wroteP
   split
   · unfold wroteN
     split
     · split
       · split
         · exact Wl.next ha (busy_f rfl rfl)
         · exact Wl.same rfl rfl
       · split
         · exact Wl.next ha (busy_f rfl rfl)
         · exact Wl.same rfl rfl
     · exact Wl.same rfl rfl
   · exact Wl.none s L
 · exact Wl.none s L
end Go.Proofs.Ytabicgbnloabnaa
