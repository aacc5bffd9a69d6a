import Derived.Test.YtabicgbnloabnaaWGa
namespace Go.Proofs.Ytabicgbnloabnaa
set_option maxRecDepth 100000
set_option linter.unusedSimpArgs false
open Go.RowKit
theorem Blk.type2 {W:World} {b T U:Nat} {vs us:List Value} (h:Blk W b T vs) (k:Blk W b U us):T=U:=by
 unfold Blk at h k
 rw [h] at k
 cases k
 rfl
structure Du (base W:World) (b c:Nat) (s:Lo) (L:List Wi) (r:Rk) (R:List Wi) (ln lr:Value):Prop where
 sb:Blk W b 75 (s.C ln)
 sw:Ws W ln L
 rb:Blk W c 47 (r.C lr)
 rr:Ws W lr R
 b0:base.heap.size≤b
 c0:base.heap.size≤c
 l0:∀k,ln.ownBlock=some k→base.heap.size≤k
 r0:∀k,lr.ownBlock=some k→base.heap.size≤k
 ap:∀k,ln.ownBlock=some k→lr.ownBlock≠some k
 kept:Kept [] base W
theorem Ws.lt {W:World} {v:Value} {l:List Wi} (h:Ws W v l) {k:Nat} (hk:v.ownBlock=some k):k<W.heap.size:=by
 obtain⟨cs,hc⟩:=Rw.block h k hk
 exact(Array.getElem?_eq_some_iff.1 hc).1
variable {base W W':World} {b c:Nat} {s:Lo} {L R:List Wi} {r:Rk} {ln lr:Value} {e:Ending}
theorem Du.ne (h:Du base W b c s L r R ln lr):b≠c:=by
 intro hb
 have h1:=h.sb
 rw [hb] at h1
 have:=h1.type2 h.rb
 cases this
theorem Du.step (h:Du base W b c s L r R ln lr) (hk:Kept [] W W'):Du base W' b c s L r R ln lr:=
 ⟨h.sb.kept hk (by simp),h.sw.kept hk (by simp),h.rb.kept hk (by simp),h.rr.kept hk (by simp),h.b0,h.c0,h.l0,h.r0,h.ap,h.kept.trans hk⟩
theorem Du.prog (h:Du base W b c s L r R ln lr) {q:Lo×List Wi×List Od} (hq:LC b ln W q e W'):∃v ln',e= .returned v∧Ou W W' v q.2.2∧Du base W' b c q.1 q.2.1 r R ln' lr∧Kept (b::spare ln) W W':=by
 obtain⟨v,ln',rfl,N,B',R',K,G⟩:=hq
 have hsz:=h.kept.size
 refine⟨v,ln',rfl,N,⟨B',R',?_,?_,h.b0,h.c0,?_,h.r0,?_,?_⟩,K⟩
 · refine h.rb.kept K (fun hx=> ?_)
   rcases List.mem_cons.1 hx with h1 | h1
   · exact h.ne h1.symm
   · exact Rw.ne h.sw h.rb (by decide) c (spare_own h1) (by simp)
 · refine h.rr.kept K (fun k hk hx=> ?_)
   rcases List.mem_cons.1 hx with h1 | h1
   · subst h1;exact Rw.ne h.rr h.sb (by decide) k hk (by simp)
   · exact h.ap k (spare_own h1) hk
 · intro k hk
   rcases G.own k hk with h1 | h1
   · exact h.l0 k h1
   · omega
 · intro k hk hx
   rcases G.own k hk with h1 | h1
   · exact h.ap k h1 hx
   · have:=h.rr.lt hx;omega
 · refine h.kept.fresh K (fun i hi hl=> ?_)
   rcases List.mem_cons.1 hi with h1 | h1
   · have:=h.b0;omega
   · have:=h.l0 i (spare_own h1);omega
theorem Du.doc (h:Du base W b c s L r R ln lr) {q:Rk×List Wi×List Od} (hq:RC c lr W q e W'):∃v lr',e= .returned v∧Ou W W' v q.2.2∧Du base W' b c s L q.1 q.2.1 ln lr'∧Kept (c::spare lr) W W':=by
 obtain⟨v,lr',rfl,N,B',R',K,G⟩:=hq
 have hsz:=h.kept.size
 refine⟨v,lr',rfl,N,⟨?_,?_,B',R',h.b0,h.c0,h.l0,?_,?_,?_⟩,K⟩
 · refine h.sb.kept K (fun hx=> ?_)
   rcases List.mem_cons.1 hx with h1 | h1
   · exact h.ne h1
   · exact Rw.ne h.rr h.sb (by decide) b (spare_own h1) (by simp)
 · refine h.sw.kept K (fun k hk hx=> ?_)
   rcases List.mem_cons.1 hx with h1 | h1
   · subst h1;exact Rw.ne h.sw h.rb (by decide) k hk (by simp)
   · exact h.ap k hk (spare_own h1)
 · intro k hk
   rcases G.own k hk with h1 | h1
   · exact h.r0 k h1
   · omega
 · intro k hk hx
   rcases G.own k hx with h1 | h1
   · exact h.ap k hk h1
   · have:=h.sw.lt hk;omega
 · refine h.kept.fresh K (fun i hi hl=> ?_)
   rcases List.mem_cons.1 hi with h1 | h1
   · have:=h.c0;omega
   · have:=h.r0 i (spare_own h1);omega
theorem Du.stay (h:Du base W b c s L r R ln lr) {w0:World} {v:Value} {O:List Od} (hO:Ou w0 W v O) (hc:c<w0.heap.size) (hl:∀k,lr.ownBlock=some k→k<w0.heap.size) (hK:Kept (c::spare lr) W W'):Ou w0 W' v O:=by
 have:=h.c0
 refine New.kept hO hK (fun k hk hx=> ?_)
 rcases List.mem_cons.1 hx with h1 | h1
 · omega
 · have:=hl k (spare_own h1);omega
end Go.Proofs.Ytabicgbnloabnaa
