import Derived.Test.YtabicgbnloabnaaUGa
namespace Go.Proofs.Ytabicgbnloabnaa
set_option maxRecDepth 100000
set_option linter.unusedSimpArgs false
open Go.RowKit
theorem Blk.type2 {W:World} {b T U:Nat} {vs us:List Value} (h:Blk W b T vs) (k:Blk W b U us):T=U:=by
 unfold Blk at h k
 rw [h] at k
 cases k
 rfl
structure Bw where
 w:World
 y:List Nat
def own1 (v:Value):List Nat:=match v.ownBlock with
 | some k=> [k]
 | none=> []
theorem mem_own1 {v:Value} {k:Nat} :k∈own1 v↔v.ownBlock=some k:=by
 unfold own1
 split
 · rename_i e;rw [e];simp;exact eq_comm
 · rename_i e;rw [e];simp
structure Du (base:Bw) (W:World) (b c:Nat) (s:Lo) (L:List Wi) (r:Rk) (R:List Wi) (ln lr:Value):Prop where
 sb:Blk W b 75 (s.C ln)
 sw:Ws W ln L
 rb:Blk W c 47 (r.C lr)
 rr:Ws W lr R
 b0:base.w.heap.size≤b∨b∈base.y
 c0:base.w.heap.size≤c∨c∈base.y
 l0:∀k,ln.ownBlock=some k→base.w.heap.size≤k∨k∈base.y
 r0:∀k,lr.ownBlock=some k→base.w.heap.size≤k∨k∈base.y
 ap:∀k,ln.ownBlock=some k→lr.ownBlock≠some k
 kept:Kept base.y base.w W
theorem Ws.lt {W:World} {v:Value} {l:List Wi} (h:Ws W v l) {k:Nat} (hk:v.ownBlock=some k):k<W.heap.size:=by
 obtain⟨cs,hc⟩:=Rw.block h k hk
 exact(Array.getElem?_eq_some_iff.1 hc).1
variable {base:Bw} {W W':World} {b c:Nat} {s:Lo} {L R:List Wi} {r:Rk} {ln lr:Value} {e:Ending}
theorem Du.ne (h:Du base W b c s L r R ln lr):b≠c:=by
 intro hb
 have h1:=h.sb
 rw [hb] at h1
 have:=h1.type2 h.rb
 cases this
theorem Du.step (h:Du base W b c s L r R ln lr) (hk:Kept [] W W'):Du base W' b c s L r R ln lr:=
 ⟨h.sb.kept hk (by simp),h.sw.kept hk (by simp),h.rb.kept hk (by simp),h.rr.kept hk (by simp),h.b0,h.c0,h.l0,h.r0,h.ap,h.kept.trans (hk.mono (by simp))⟩
theorem Du.prog (h:Du base W b c s L r R ln lr) {q:Lo×List Wi×List Od} (hq:LC b ln W q e W'):∃v ln',e= .returned v∧Ou W W' v q.2.2∧Du base W' b c q.1 q.2.1 r R ln' lr∧Kept (b::spare ln) W W':=by
 obtain⟨v,ln',rfl,N,B',R',K,G⟩:=hq
 have hsz:=h.kept.size
 refine⟨v,ln',rfl,N,⟨B',R',?_,?_,h.b0,h.c0,?_,h.r0,?_,?_⟩,K⟩
 · refine h.rb.kept K (fun hx=> ?_)
   rcases List.mem_cons.1 hx with h1 | h1
   · exact h.ne h1.symm
   · exact Rw.ne h.sw h.rb (by decide) c (spare_own h1) (by simp)
 · refine h.rr.kept K (fun k hk hx=> ?_)
   rcases List.mem_cons.1 hx with h1 | h1
   · subst h1;exact Rw.ne h.rr h.sb (by decide) k hk (by simp)
   · exact h.ap k (spare_own h1) hk
 · intro k hk
   rcases G.own k hk with h1 | h1
   · exact h.l0 k h1
   · exact .inl (by omega)
 · intro k hk hx
   rcases G.own k hk with h1 | h1
   · exact h.ap k h1 hx
   · have:=h.rr.lt hx;omega
 · refine h.kept.fresh K (fun i hi hl=> ?_)
   rcases List.mem_cons.1 hi with h1 | h1
   · rcases h.b0 with h2 | h2
     · omega
     · rw [h1];exact h2
   · rcases h.l0 i (spare_own h1) with h2 | h2
     · omega
     · exact h2
theorem Du.doc (h:Du base W b c s L r R ln lr) {q:Rk×List Wi×List Od} (hq:RC c lr W q e W'):∃v lr',e= .returned v∧Ou W W' v q.2.2∧Du base W' b c s L q.1 q.2.1 ln lr'∧Kept (c::spare lr) W W':=by
 obtain⟨v,lr',rfl,N,B',R',K,G⟩:=hq
 have hsz:=h.kept.size
 refine⟨v,lr',rfl,N,⟨?_,?_,B',R',h.b0,h.c0,h.l0,?_,?_,?_⟩,K⟩
 · refine h.sb.kept K (fun hx=> ?_)
   rcases List.mem_cons.1 hx with h1 | h1
   · exact h.ne h1
   · exact Rw.ne h.rr h.sb (by decide) b (spare_own h1) (by simp)
 · refine h.sw.kept K (fun k hk hx=> ?_)
   rcases List.mem_cons.1 hx with h1 | h1
   · subst h1;exact Rw.ne h.sw h.rb (by decide) k hk (by simp)
   · exact h.ap k hk (spare_own h1)
 · intro k hk
   rcases G.own k hk with h1 | h1
   · exact h.r0 k h1
   · exact .inl (by omega)
 · intro k hk hx
   rcases G.own k hx with h1 | h1
   · exact h.ap k hk h1
   · have:=h.sw.lt hk;omega
 · refine h.kept.fresh K (fun i hi hl=> ?_)
   rcases List.mem_cons.1 hi with h1 | h1
   · rcases h.c0 with h2 | h2
     · omega
     · rw [h1];exact h2
   · rcases h.r0 i (spare_own h1) with h2 | h2
     · omega
     · exact h2
theorem Du.stay (_h:Du base W b c s L r R ln lr) {w0:World} {v:Value} {O:List Od} (hO:Ou w0 W v O) (hc:c<w0.heap.size) (hl:∀k,lr.ownBlock=some k→k<w0.heap.size) (hK:Kept (c::spare lr) W W'):Ou w0 W' v O:=by
 refine New.kept hO hK (fun k hk hx=> ?_)
 rcases List.mem_cons.1 hx with h1 | h1
 · omega
 · have:=hl k (spare_own h1);omega
theorem Du.rebase (h:Du base W b c s L r R ln lr):Du ⟨W,b::c::(own1 ln++own1 lr)⟩ W b c s L r R ln lr:=
 ⟨h.sb,h.sw,h.rb,h.rr,.inr (by simp),.inr (by simp),fun k hk=> .inr (by simp [mem_own1.2 hk]),fun k hk=> .inr (by simp [mem_own1.2 hk]),h.ap,Kept.refl _ _⟩
theorem Du.back {s1:Lo} {L1 R1:List Wi} {r1:Rk} {ln1 lr1:Value} (h:Du base W b c s L r R ln lr) (k:Du ⟨W,b::c::(own1 ln++own1 lr)⟩ W' b c s1 L1 r1 R1 ln1 lr1):Du base W' b c s1 L1 r1 R1 ln1 lr1:=by
 have hsz:=h.kept.size
 have key:∀i,i∈b::c::(own1 ln++own1 lr)→base.w.heap.size≤i∨i∈base.y:=by
   intro i hi
   simp only [List.mem_cons,List.mem_append] at hi
   rcases hi with rfl | rfl | hi | hi
   · exact h.b0
   · exact h.c0
   · exact h.l0 i (mem_own1.1 hi)
   · exact h.r0 i (mem_own1.1 hi)
 refine⟨k.sb,k.sw,k.rb,k.rr,h.b0,h.c0,fun i hi=> ?_,fun i hi=> ?_,k.ap,h.kept.fresh k.kept (fun i hi hl=> ?_)⟩
 · rcases k.l0 i hi with h1 | h1
   · exact .inl (Nat.le_trans hsz h1)
   · exact key i h1
 · rcases k.r0 i hi with h1 | h1
   · exact .inl (Nat.le_trans hsz h1)
   · exact key i h1
 · rcases key i hi with h1 | h1
   · omega
   · exact h1
theorem Du.far (h:Du base W b c s L r R ln lr) {q T:Nat} {vs:List Value} (hB:Blk W q T vs) (h1:T≠75) (h2:T≠47) (h3:T≠41):q∉b::c::(own1 ln++own1 lr):=by
 intro hq
 simp only [List.mem_cons,List.mem_append] at hq
 rcases hq with rfl | rfl | hq | hq
 · exact h1 (hB.type2 h.sb)
 · exact h2 (hB.type2 h.rb)
 · exact Rw.ne h.sw hB h3 q (mem_own1.1 hq) (by simp)
 · exact Rw.ne h.rr hB h3 q (mem_own1.1 hq) (by simp)
end Go.Proofs.Ytabicgbnloabnaa
