import Derived.Test.YtbigongmlpoahaaUFo
namespace Go.Proofs.Ytbigongmlpoahaa
set_option maxRecDepth 100000
set_option linter.unusedSimpArgs false
open Go.RowKit
structure Gd (A:Nat) (s:Lo) (L:List Wi):Prop where
 ok:s.Ok
 all:∀x∈L,x.Ok
 op0:0≤s.op
 op1:s.op+L.length≤A
 len:L.length≤A
theorem Gd.mono {A B:Nat} {s:Lo} {L:List Wi} (h:Gd A s L) (hAB:A≤B):Gd B s L:=⟨h.ok,h.all,h.op0,by have:=h.op1;omega,by have:=h.len;omega⟩
theorem Gd.sd {A:Nat} {s:Lo} {L:List Wi} (h:Gd A s L) (hA:A≤900) {w:World} {b:Nat} {ln:Value} (hB:Blk w b 108 (s.C ln)) (hW:Ws w ln L):Sd w b ln s L:=⟨hB,hW,h.ok,h.all,h.op0,by have:=h.op1;omega,by have:=h.len;omega⟩
theorem next_gd:∀(L:List Wi) (s:Lo) (A:Nat),Gd A s L→Gd A (nextP s L).1 (nextP s L).2.1
 | [],s,A,h=>h
 | x::r,s,A,h=>by
   have hx:=h.all x (by simp)
   have h1:=begin_ok (take_ok h.ok hx)
   have h2:(s.take x).begin.1.op=s.op+1:=begin_op _
   have h3:=h.op1
   have h4:=h.op0
   have h5:=h.len
   simp only [List.length_cons,Int.natCast_add,Int.natCast_one] at h3 h5
   have hg:Gd A (s.take x).begin.1 r:=⟨h1,fun y hy=>h.all y (by simp [hy]),by omega,by omega,by omega⟩
   rw [nextP]
   split
   · exact hg
   · exact next_gd r _ A hg
theorem over_gd {A:Nat} {s:Lo} {L:List Wi} (h:Gd A s L):Gd A s.over L:=⟨over_ok h.ok,h.all,h.op0,h.op1,h.len⟩
theorem ask_gd {A:Nat} {s:Lo} {L:List Wi} {x:Wi} (h:Gd A s L) (hx:x.Ok):Gd (A+1) (askP s L x).1 (askP s L x).2.1:=by
 have hg:Gd (A+1) s (L++ [x]):=by
   refine⟨h.ok,fun y hy=> ?_,h.op0,?_,?_⟩
   · rcases List.mem_append.1 hy with h1 | h1
     · exact h.all y h1
     · simp at h1;subst h1;exact hx
   · have:=h.op1;simp;omega
   · have:=h.len;simp;omega
 unfold askP
 split
 · exact h.mono (by omega)
 · split
   · exact hg
   · exact next_gd _ _ _ hg
theorem askI_gd {A:Nat} {s:Lo} {L:List Wi} {m k:Int} (h:Gd A s L) (hk:k=1∨k=2∨k=3):Gd (A+1) (askI s L m k).1 (askI s L m k).2.1:=by
 unfold askI
 split
 · rename_i hm
   have h1:0≤m∧m<8:=by simpa [isN] using hm
   exact ask_gd h ⟨by simp;omega,hk⟩
 · exact h.mono (by omega)
theorem want_gd {A:Nat} {s:Lo} {L:List Wi} {m md:Int} (h:Gd A s L):Gd (A+1) (wantP s L m md).1 (wantP s L m md).2.1:=by
 unfold wantP
 split
 · exact askI_gd h (by simp)
 · split
   · exact askI_gd h (by simp)
   · exact h.mono (by omega)
theorem isGone_op (s:Lo) (n:Nat):(s.isGone n).1.op=s.op:=by unfold Lo.isGone;split <;> rfl
theorem isGone_ok {s:Lo} (h:s.Ok) (n:Nat):(s.isGone n).1.Ok:=by
 unfold Lo.isGone
 split
 · exact handOver_ok (setWa_ok h _ _)
 · exact setWa_ok h _ _
theorem anew_ok {s:Lo} (h:s.Ok):s.anew.1.Ok:=by
 unfold Lo.anew
 split
 · exact handOn_ok (opUp_ok h)
 · exact handOver_ok (opUp_ok h)
theorem gone_gd {A:Nat} {s:Lo} {L:List Wi} {m c:Int} (h:Gd A s L):Gd (A+1) (goneP s L m c).1 (goneP s L m c).2.1:=by
 unfold goneP
 split
 · refine Gd.mono (A:=A) ⟨isGone_ok (give_ok h.ok _) _,h.all,?_,?_,h.len⟩ (by omega)
   · simp only [isGone_op];exact h.op0
   · simp only [isGone_op];exact h.op1
 · exact h.mono (by omega)
theorem now_gd {A:Nat} {s:Lo} {L:List Wi} (h:Gd A s L):Gd A s.now L:=by
 unfold Lo.now
 split
 · exact⟨nowSh_ok h.ok _,h.all,by rw [nowSh_op];exact h.op0,by rw [nowSh_op];exact h.op1,h.len⟩
 · exact⟨nowEx_ok h.ok h.ok.hn,h.all,by rw [nowEx_op];exact h.op0,by rw [nowEx_op];exact h.op1,h.len⟩
theorem got_gd {A:Nat} {s:Lo} {L:List Wi} {m c:Int} (h:Gd A s L):Gd (A+1) (gotP s L m c).1 (gotP s L m c).2.1:=by
 unfold gotP
 split
 · exact(next_gd _ _ _ (over_gd (now_gd h))).mono (by omega)
 · exact h.mono (by omega)
theorem rel_gd {A:Nat} {s:Lo} {L:List Wi} {m c:Int} (h:Gd A s L):Gd (A+1) (relP s L m c).1 (relP s L m c).2.1:=by
 unfold relP
 split
 · unfold relN
   split
   · refine Gd.mono (A:=A) ⟨isGone_ok (give_ok h.ok _) _,h.all,?_,?_,h.len⟩ (by omega)
     · simp only [isGone_op];exact h.op0
     · simp only [isGone_op];exact h.op1
   · split
     · have h1:=h.op0
       have h2:=h.op1
       refine⟨anew_ok (give_ok h.ok _),h.all,?_,?_,by have:=h.len;simp;omega⟩
       · simp only [anew_op,Lo.give];omega
       · simp only [anew_op,Lo.give];omega
     · split
       · have hg:Gd A (s.give m.toNat).needless.1 L:=⟨needless_ok (give_ok h.ok _),h.all,h.op0,h.op1,h.len⟩
         exact(next_gd _ _ _ hg).mono (by omega)
       · exact Gd.mono (A:=A) ⟨give_ok h.ok _,h.all,h.op0,h.op1,h.len⟩ (by omega)
 · exact h.mono (by omega)
theorem wrote_gd {A:Nat} {s:Lo} {L:List Wi} {m c p:Int} (h:Gd A s L):Gd (A+1) (wroteP s L m c p).1 (wroteP s L m c p).2.1:=by
 have g1:Gd A s.noPa L:=⟨noPa_ok h.ok,h.all,h.op0,h.op1,h.len⟩
 have g2:Gd A s.noPa.noOw L:=⟨noOw_ok (noPa_ok h.ok),h.all,h.op0,h.op1,h.len⟩
 unfold wroteP
 split
 · unfold wroteN
   split
   · split
     · split
       · exact(next_gd _ _ _ (over_gd g1)).mono (by omega)
       · exact g1.mono (by omega)
     · split
       · exact(next_gd _ _ _ (over_gd g2)).mono (by omega)
       · exact g2.mono (by omega)
   · exact h.mono (by omega)
 · exact h.mono (by omega)
theorem lo0_gd:Gd 0 lo0 []:=⟨⟨by decide,by decide,by decide,by decide⟩,(fun x hx=>by cases hx),by decide,by decide,by decide⟩
structure Kl (A:Nat) (base W:World) (b:Nat) (s:Lo) (L:List Wi):Prop where
 st:∃ln,Blk W b 108 (s.C ln)∧Ws W ln L∧∀k,ln.ownBlock=some k→base.heap.size≤k
 bb:base.heap.size≤b
 gd:Gd A s L
 kept:Kept [] base W
theorem Kl.blk {A:Nat} {base W:World} {b:Nat} {s:Lo} {L:List Wi} (h:Kl A base W b s L):∃ln,Blk W b 108 (s.C ln):=by obtain⟨ln,h1,_⟩:=h.st;exact⟨ln,h1⟩
theorem Kl.call {A B:Nat} {base W:World} {b:Nat} {s:Lo} {L:List Wi} (h:Kl A base W b s L) (hA:A≤900) {f:FuncId} {args:Array Value} {r:Lo×List Wi×List Od} (hc:∀ln,Sd W b ln s L→Calls Try.prog f args W (LC b ln W r)) (hg:Gd B r.1 r.2.1):Calls Try.prog f args W fun e w'=>∃v,e= .returned v∧Ou W w' v r.2.2∧Kl B base w' b r.1 r.2.1:=by
 obtain⟨ln,h1,h2,h3⟩:=h.st
 refine(hc ln (h.gd.sd hA h1 h2)).mono ?_
 rintro e w' ⟨v,ln',rfl,N,B',R,K,G⟩
 have hsz:=h.kept.size
 have hbb:=h.bb
 refine⟨v,rfl,N,⟨ln',B',R,fun k hk=> ?_⟩,h.bb,hg,h.kept.fresh K (fun i hi hl=> ?_)⟩
 · rcases G.own k hk with h4 | h4
   · exact h3 k h4
   · omega
 · rcases List.mem_cons.1 hi with rfl | hi
   · omega
   · have:=h3 i (spare_own hi);omega
end Go.Proofs.Ytbigongmlpoahaa
