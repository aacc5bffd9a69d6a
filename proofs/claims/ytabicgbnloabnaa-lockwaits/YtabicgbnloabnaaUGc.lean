import Derived.Test.YtabicgbnloabnaaUGb
namespace Go.Proofs.Ytabicgbnloabnaa
set_option maxRecDepth 100000
set_option linter.unusedSimpArgs false
open Go.RowKit
theorem Blk.ne_of {W:World} {b c T U:Nat} {vs us:List Value} (h:Blk W b T vs) (k:Blk W c U us) (hT:T≠U):b≠c:=by
 rintro rfl
 exact hT (h.type2 k)
structure S2 (base:Bw) (w:World) (b c b5:Nat) (x:Sp) (s:Lo) (L:List Wi) (r:Rk) (R:List Wi) (ln lr:Value) (p:Lo×List Wi×List Od) (q:Rk×List Wi×List Od) (k1 k2 k3 k4:Nat) (d:Nat→Bool) (vs:Nat→Value) (W:World):Prop where
 x5:Blk W b5 33 x.C
 sz:w.heap.size≤W.heap.size
 n1:d k1=false→d k2=false∧Du base W b c s L r R ln lr
 n2:d k1=true→d k2=false→∃ln',Du base W b c p.1 p.2.1 r R ln' lr
 n3:d k2=true→d k1=true∧∃ln' lr',Du base W b c p.1 p.2.1 q.1 q.2.1 ln' lr'
 o1:d k1=true→Ou w W (vs k1) p.2.2
 o2:d k2=true→Ou w W (vs k2) q.2.2
 a1:d k3=true→d k1=true∧vs k3=vs k1
 a2:d k4=true→d k2=true∧vs k4=vs k2
variable {base:Bw} {w W W':World} {b c b5:Nat} {x:Sp} {s:Lo} {L R:List Wi} {r:Rk} {ln lr:Value} {p:Lo×List Wi×List Od} {q:Rk×List Wi×List Od} {k1 k2 k3 k4:Nat} {d:Nat→Bool} {vs:Nat→Value}
theorem S2.loc:∀d d' vs vs' W,(∀i∈ [k1,k2,k3,k4],d i=d' i∧vs i=vs' i)→S2 base w b c b5 x s L r R ln lr p q k1 k2 k3 k4 d vs W→S2 base w b c b5 x s L r R ln lr p q k1 k2 k3 k4 d' vs' W:=by
 intro d d' vs vs' W H h
 obtain⟨a1,c1⟩:=H k1 (by simp)
 obtain⟨a2,c2⟩:=H k2 (by simp)
 obtain⟨a3,c3⟩:=H k3 (by simp)
 obtain⟨a4,c4⟩:=H k4 (by simp)
 exact⟨h.x5,h.sz,by rw [← a1,← a2];exact h.n1,by rw [← a1,← a2];exact h.n2,by rw [← a1,← a2];exact h.n3,by rw [← a1,← c1];exact h.o1,by rw [← a2,← c2];exact h.o2,by rw [← a1,← a3,← c1,← c3];exact h.a1,by rw [← a2,← a4,← c2,← c4];exact h.a2⟩
theorem S2.call1 (h:S2 base w b c b5 x s L r R ln lr p q k1 k2 k3 k4 d vs W) (hd: [k1,k2,k3,k4].Nodup) (h1:d k1=false) (h3:d k3=false) (h4:d k4=false) {v ln':Value} (hO:Ou W W' v p.2.2) (hD:Du base W' b c p.1 p.2.1 r R ln' lr) (hK:Kept (b::spare ln) W W'):
   S2 base w b c b5 x s L r R ln lr p q k1 k2 k3 k4 (fun i=>if i=k1 then true else d i) (fun i=>if i=k1 then v else vs i) W':=by
 simp only [List.nodup_cons,List.mem_cons,List.mem_nil_iff,or_false,not_or,List.nodup_nil,and_true,not_false_eq_true] at hd
 obtain⟨⟨d12,d13,d14⟩,⟨d23,d24⟩,d34⟩:=hd
 obtain⟨h2,D⟩:=h.n1 h1
 have e2:¬k2=k1:=fun e=>d12 e.symm
 have e3:¬k3=k1:=fun e=>d13 e.symm
 have e4:¬k4=k1:=fun e=>d14 e.symm
 refine⟨h.x5.kept hK (fun hx=> ?_),Nat.le_trans h.sz hK.size,fun e=>by simp at e,fun _ _=>⟨ln',hD⟩,fun e=>by simp [e2,h2] at e,fun _=> ?_,fun e=>by simp [e2,h2] at e,fun e=>by simp [e3,h3] at e,fun e=>by simp [e4,h4] at e⟩
 · rcases List.mem_cons.1 hx with h9 | h9
   · exact h.x5.ne_of D.sb (by decide) h9
   · exact Rw.ne D.sw h.x5 (by decide) b5 (spare_own h9) (by simp)
 · simp only [if_true];exact New.elder hO h.sz
theorem S2.call2 (h:S2 base w b c b5 x s L r R ln lr p q k1 k2 k3 k4 d vs W) (hd: [k1,k2,k3,k4].Nodup) (h1:d k1=true) (h4:d k4=false) (hc:c<w.heap.size) (hl:∀k,lr.ownBlock=some k→k<w.heap.size) {v ln' lr':Value} (D:Du base W b c p.1 p.2.1 r R ln' lr) (hO:Ou W W' v q.2.2) (hD:Du base W' b c p.1 p.2.1 q.1 q.2.1 ln' lr') (hK:Kept (c::spare lr) W W'):
   S2 base w b c b5 x s L r R ln lr p q k1 k2 k3 k4 (fun i=>if i=k2 then true else d i) (fun i=>if i=k2 then v else vs i) W':=by
 simp only [List.nodup_cons,List.mem_cons,List.mem_nil_iff,or_false,not_or,List.nodup_nil,and_true,not_false_eq_true] at hd
 obtain⟨⟨d12,d13,d14⟩,⟨d23,d24⟩,d34⟩:=hd
 have e3:¬k3=k2:=fun e=>d23 e.symm
 have e4:¬k4=k2:=fun e=>d24 e.symm
 refine⟨h.x5.kept hK (fun hx=> ?_),Nat.le_trans h.sz hK.size,fun e=>by simp [d12,h1] at e,fun _ e=>by simp at e,fun _=>⟨by simp [d12,h1],ln',lr',hD⟩,fun _=> ?_,fun _=> ?_,fun e=> ?_,fun e=>by simp [e4,h4] at e⟩
 · rcases List.mem_cons.1 hx with h9 | h9
   · exact h.x5.ne_of D.rb (by decide) h9
   · exact Rw.ne D.rr h.x5 (by decide) b5 (spare_own h9) (by simp)
 · simp only [if_neg d12];exact D.stay (h.o1 h1) hc hl hK
 · simp only [if_true];exact New.elder hO h.sz
 · simp only [if_neg e3,if_neg d12] at e ⊢;exact h.a1 e
theorem S2.as1 (h:S2 base w b c b5 x s L r R ln lr p q k1 k2 k3 k4 d vs W) (hd: [k1,k2,k3,k4].Nodup) (h1:d k1=true):S2 base w b c b5 x s L r R ln lr p q k1 k2 k3 k4 (fun i=>if i=k3 then true else d i) (fun i=>if i=k3 then vs k1 else vs i) W:=by
 simp only [List.nodup_cons,List.mem_cons,List.mem_nil_iff,or_false,not_or,List.nodup_nil,and_true,not_false_eq_true] at hd
 obtain⟨⟨d12,d13,d14⟩,⟨d23,d24⟩,d34⟩:=hd
 have e4:¬k4=k3:=fun e=>d34 e.symm
 refine⟨h.x5,h.sz,?_,?_,?_,?_,?_,fun _=> ?_,?_⟩
 · simp only [if_neg d13,if_neg d23];exact h.n1
 · simp only [if_neg d13,if_neg d23];exact h.n2
 · simp only [if_neg d13,if_neg d23];exact h.n3
 · simp only [if_neg d13];exact h.o1
 · simp only [if_neg d23];exact h.o2
 · simp only [if_neg d13,if_true];exact⟨h1,trivial⟩
 · simp only [if_neg d23,if_neg e4];exact h.a2
theorem S2.as2 (h:S2 base w b c b5 x s L r R ln lr p q k1 k2 k3 k4 d vs W) (hd: [k1,k2,k3,k4].Nodup) (h2:d k2=true):S2 base w b c b5 x s L r R ln lr p q k1 k2 k3 k4 (fun i=>if i=k4 then true else d i) (fun i=>if i=k4 then vs k2 else vs i) W:=by
 simp only [List.nodup_cons,List.mem_cons,List.mem_nil_iff,or_false,not_or,List.nodup_nil,and_true,not_false_eq_true] at hd
 obtain⟨⟨d12,d13,d14⟩,⟨d23,d24⟩,d34⟩:=hd
 refine⟨h.x5,h.sz,?_,?_,?_,?_,?_,?_,fun _=> ?_⟩
 · simp only [if_neg d14,if_neg d24];exact h.n1
 · simp only [if_neg d14,if_neg d24];exact h.n2
 · simp only [if_neg d14,if_neg d24];exact h.n3
 · simp only [if_neg d14];exact h.o1
 · simp only [if_neg d24];exact h.o2
 · simp only [if_neg d34,if_neg d14];exact h.a1
 · simp only [if_neg d24,if_true];exact⟨h2,trivial⟩
end Go.Proofs.Ytabicgbnloabnaa
