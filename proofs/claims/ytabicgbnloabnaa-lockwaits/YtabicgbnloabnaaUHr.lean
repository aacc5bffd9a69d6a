import Derived.Test.YtabicgbnloabnaaUHl
import Derived.Test.YtabicgbnloabnaaUPh
import Derived.Test.YtabicgbnloabnaaUFr
import Derived.Test.YtabicgbnloabnaaUFs
import Derived.Test.YtabicgbnloabnaaURa
namespace Go.Proofs.Ytabicgbnloabnaa
set_option maxRecDepth 100000
set_option linter.unusedSimpArgs false
open Go.RowKit
theorem handOverLen (s:Lo):s.handOver.2.length≤8:=by
 unfold Lo.handOver
 simp only
 split
 · exact send_len _ _ _
 · exact drops_len _
theorem handOnLen (s:Lo):s.handOn.2.length≤8:=send_len _ _ _
theorem isGoneLen (s:Lo) (n:Nat):(s.isGone n).2.length≤8:=by
 unfold Lo.isGone
 split
 · exact handOverLen _
 · simp
theorem pdoLen (s:Lo) (L:List Wi) (r:Rk) (x:Sp):(pdo s L r x).2.2.length≤8*L.length+16:=by
 have hask:∀y,(askP s L y).2.2.length≤8*L.length+16:=by
   intro y
   unfold askP
   split
   · simp
   · split
     · simp
     · have:=nextP_len (L++ [y]) s
       simp at this;omega
 have haskI:∀m k,(askI s L m k).2.2.length≤8*L.length+16:=by
   intro m k
   unfold askI
   split
   · exact hask _
   · simp
 unfold pdo
 repeat' split
 · unfold wantP
   split
   · exact haskI _ _
   · split
     · exact haskI _ _
     · simp
 · exact haskI _ _
 · unfold goneP
   split
   · have:=isGoneLen (s.give x.n.toNat) x.n.toNat
     simp only;omega
   · simp
 · unfold gotP
   split
   · have:=nextP_len L s.now.over
     omega
   · simp
 · unfold relP
   split
   · unfold relN
     split
     · have:=isGoneLen (s.give x.n.toNat) x.n.toNat
       simp only;omega
     · split
       · unfold Lo.anew
         split
         · have:=handOnLen (s.give x.n.toNat).opUp
           simp only;omega
         · have:=handOverLen (s.give x.n.toNat).opUp
           simp only;omega
       · split
         · have:=nextP_len L (s.give x.n.toNat).needless.1
           simp only [more,List.length_append]
           simp [Lo.needless] at this⊢
           omega
         · simp
   · simp
 · unfold wroteP
   split
   · have hd:=discards_len s x.p
     unfold wroteN
     split
     · split
       · split
         · have:=nextP_len L s.noPa.over
           simp only [more,List.length_append];omega
         · simp only;omega
       · split
         · have:=nextP_len L s.noPa.noOw.over
           simp only [more,List.length_append];omega
         · simp only;omega
     · simp only;omega
   · simp
 · simp
section
variable {o:Oper} {a:Act} {w:World} {K:Act→World→Prop} {Q:Exit→Act→World→Prop}
theorem o_restk (x y:Operand) (ho:o.op= .slice 38 x (some y) none none) (ao:Option Addr) (n c k:Nat) (hn:n≤c) (hno:ao=none→n=0∧c=0) (hk:k≤n) (hx:a.eval x= .slice ao n c) (hy:a.eval y= .int .i64 k) (h:K (a.put o.dst (restV 2 ao n c k)) w):o.wp Try.prog a w K Q:=by
 unfold Oper.wp execOp
 simp only [ho,hx,hy,Option.map_none,Option.map_some]
 cases ao with
 | none=>
   obtain⟨h1,h2⟩:=hno rfl
   subst h1 h2
   obtain rfl:k=0:=by omega
   simp [go_sem]
   exact h
 | some ad=>
   obtain⟨g,off,sp⟩:=ad
   unfold restV at h
   simp at h
   by_cases e:c=k
   · simp [e] at h
     subst e
     obtain rfl:n=c:=by omega
     simp [go_sem]
     simp at h
     exact h
   · simp [e] at h
     simp [go_sem,hk,e]
     exact h
theorem c_sub3 (x y:Operand) (ho:o.op= .binOp .sub 3 x y 3) (m n:Int) (hm: -1000000000≤m-n∧m-n≤1000000000) (hx:a.eval x= .int .i64 m) (hy:a.eval y= .int .i64 n) (h:K (a.put o.dst (.int .i64 (m-n))) w):o.wp Try.prog a w K Q:=by
 unfold Oper.wp execOp
 simp only [ho,hx,hy]
 have e:IntKind.i64.wrap (m-n)=m-n:=by rw [IntKind.wrap_i64];omega
 simp [go_sem,e]
 exact h
end
theorem wsC_drop (L:List Wi):∀k,(wsC L).drop (k*2)=wsC (L.drop k):=by
 induction L with
 | nil=>intro k;simp [wsC]
 | cons x l ih=>
   intro k
   cases k with
   | zero=>simp
   | succ k=>
     rw [List.drop_succ_cons,← ih k]
     show(x.C++wsC l).drop ((k+1)*2)=_
     rw [show (k+1)*2=k*2+2 by omega]
     rfl
theorem Ws.restk {W:World} {ao:Option Addr} {c:Nat} {L:List Wi} (h:Ws W (.slice ao L.length c) L) (k:Nat) (hk:k≤L.length):Ws W (restV 2 ao L.length c k) (L.drop k):=by
 have h9:=h.rest k hk
 rw [wsC_drop] at h9
 show Rw _ _ _ _ _ _
 rw [List.length_drop]
 exact h9
theorem Du.farR {base:Bw} {W:World} {b c:Nat} {s:Lo} {L R:List Wi} {r:Rk} {ln lr:Value} (h:Du base W b c s L r R ln lr) {e z n:Nat} {v:Value} {xs:List Value} (hR:Rw W e z v n xs) (h1:e≠75) (h2:e≠47) (h3:e≠41):∀k,v.ownBlock=some k→k∉b::c::(own1 ln++own1 lr):=by
 intro k hk hq
 have two:∀ {u:Value} {L:List Wi},Ws W u L→u.ownBlock=some k→False:=by
   intro u L hu hk2
   obtain⟨cs,e1⟩:=hR.block k hk
   obtain⟨cs2,e2⟩:=Rw.block hu k hk2
   rw [e1] at e2
   cases e2
   exact h3 rfl
 simp only [List.mem_cons,List.mem_append] at hq
 rcases hq with rfl | rfl | hq | hq
 · exact Rw.ne hR h.sb (fun e=>h1 e.symm) k hk (by simp)
 · exact Rw.ne hR h.rb (fun e=>h2 e.symm) k hk (by simp)
 · exact two h.sw (mem_own1.1 hq)
 · exact two h.rr (mem_own1.1 hq)
theorem Du.farW {base:Bw} {W:World} {b c:Nat} {s:Lo} {L R:List Wi} {r:Rk} {ln lr:Value} (h:Du base W b c s L r R ln lr) {N:Nat} {n:Nat} {v:Value} {xs:List Value} (hR:Rw W 41 2 v n xs) (hv:∀k,v.ownBlock=some k→N≤k) (hl:∀k,ln.ownBlock=some k→k<N) (hr:∀k,lr.ownBlock=some k→k<N):∀k,v.ownBlock=some k→k∉b::c::(own1 ln++own1 lr):=by
 intro k hk hq
 have h0:=hv k hk
 simp only [List.mem_cons,List.mem_append] at hq
 rcases hq with rfl | rfl | hq | hq
 · exact Rw.ne hR h.sb (by decide) k hk (by simp)
 · exact Rw.ne hR h.rb (by decide) k hk (by simp)
 · have:=hl k (mem_own1.1 hq);omega
 · have:=hr k (mem_own1.1 hq);omega
theorem St.row {w W W':World} {b c j:Nat} {s:Lo} {L R:List Wi} {r:Rk} {ln lr:Value} (h:St ⟨w,[]⟩ W b c j s L r R ln lr) {n:Nat} {v:Value} {xs:List Value} (hN:New w W 65 6 v n xs) (hk:Kept (spare v) W W'):St ⟨w,[]⟩ W' b c j s L r R ln lr:=by
 have hd:=h.du
 have two:∀ {u:Value} {L:List Wi},Ws W u L→∀k,u.ownBlock=some k→k∉spare v:=fun hu=>Rw.apart hu hN.row (by decide)
 refine⟨⟨hd.sb.kept hk (fun hb=>Rw.ne hN.row hd.sb (by decide) b (spare_own hb) (by simp)),hd.sw.kept hk (two hd.sw),hd.rb.kept hk (fun hb=>Rw.ne hN.row hd.rb (by decide) c (spare_own hb) (by simp)),hd.rr.kept hk (two hd.rr),hd.b0,hd.c0,hd.l0,hd.r0,hd.ap,hd.kept.fresh hk (fun i hi hl=> ?_)⟩,h.gd,h.gr,h.iv,h.bz⟩
 exact absurd (hN.spare i hi) (Nat.not_le.2 hl)
set_option maxHeartbeats 2000000 in
theorem begins24 (L M:List Wi) (u v:Value) (w:World) (h:Ws w u L) (k:Ws w v M) (hL:M.length≤100000):Calls Try.prog 24 #[u,v] w fun e w'=>e= .returned (.bool (decide (L.take M.length=M)))∧Kept [] w w':=by
 obtain⟨ao,c,rfl,_,_⟩:=h.sl
 obtain⟨bo,d,rfl,_,_⟩:=k.sl
 have H1:=hide h
 have H2:=hide k
 clear h k
 by_cases hl:M.length≤L.length
 rotate_left
 · have h2:decide ((L.length:Int)<(M.length:Int))=true:=by simp;omega
   have h3:decide ((M.length:Int)>(L.length:Int))=true:=by simp;omega
   go_enter Try.func24,Try.ntmps24
   go_wp2_with fail
   go_ret
   exact⟨by rw [decide_eq_false (p:=L.take M.length=M) (fun e=>hl (by have:=congrArg List.length e;simp at this;omega))];rfl,Kept.refl _ _⟩
 have HL:=hide hl
 have h2:decide ((L.length:Int)<(M.length:Int))=false:=by simp;omega
 have h3:decide ((M.length:Int)>(L.length:Int))=false:=by simp;omega
 have h4:decide (L.length<M.length)=false:=by simp;omega
 clear hl
 go_enter Try.func24,Try.ntmps24
 go_wp2_with fail
 go_loopw [5] (fun i wr=>∃j:Nat,j≤M.length∧i= .int .i64 j∧Hid (∀k,k<j→L[k]?=M[k]?)∧Hid (Kept [] w wr)) (fun i _=>M.length-(intOf i).toNat)
 case atStart=>exact ⟨0,by omega,rfl,fun k hk=>by omega,Kept.refl _ _⟩
 case round=>
   obtain⟨j,hj,rfl,HN,HK⟩:=hrel
   by_cases hlt:j<M.length
   · have hjI:(j:Int)<M.length:=by omega
     have hd:decide ((j:Int)<M.length)=true:=by simpa using hjI
     have HJL:Hid (j<L.length):=by have:=unhide HL;show _<_;omega
     obtain⟨x,hx⟩:∃x,L[j]?=some x:=⟨_,List.getElem?_eq_getElem (unhide HJL)⟩
     obtain⟨y,hy⟩:∃y,M[j]?=some y:=⟨_,List.getElem?_eq_getElem hlt⟩
     obtain⟨g,off,c',e,hr⟩:=Ws.get ((unhide H1).kept (unhide HK) (by simp)) hx
     cases e
     obtain⟨q,oq,d',e,hq⟩:=Ws.get ((unhide H2).kept (unhide HK) (by simp)) hy
     cases e
     have HR1:∀ {W:World},Kept [] wr W→W.rangeAt g (off+j*2) x.C:=fun hk k u hu=>hk.cell (hr k u hu) (by simp)
     have HR2:∀ {W:World},Kept [] wr W→W.rangeAt q (oq+j*2) y.C:=fun hk k u hu=>hk.cell (hq k u hu) (by simp)
     have HX:=hide hx
     have HY:=hide hy
     clear hx hy
     by_cases he:x=y
     · have HEQ:Hid (decide (x=y)=true):=by simpa [Hid] using he
       have HN2:Hid (∀k,k<j+1→L[k]?=M[k]?):=by
         intro k hk
         by_cases hkj:k=j
         · subst hkj;rw [unhide HX,unhide HY,he]
         · exact unhide HN k (by omega)
       clear he
       go_wp2_with fail
       refine wp_region_any mixed (wpAny_tq 9 rfl (by kernel_rfl) [some (.slice (some ⟨g,off,none⟩) L.length c),some (.int .i64 j),some (.pointer (some ⟨g,off+j*2,none⟩)),some (aggV x.C),some (.slice (some ⟨q,oq,none⟩) M.length d),some (.int .i64 j),some (.pointer (some ⟨q,oq+j*2,none⟩)),some (aggV y.C),some (.bool false)] rfl (by kernel_rfl) (by kernel_rfl) ?_ ?_)
       · intro i o' hi hsk ho a' w2 hout hin hk2
         replace hk2:Kept [] wr w2:=⟨hk2.os,hk2.tape,hk2.output,hk2.size,hk2.block⟩
         match i,ho,hsk with
         | 0,ho,hsk=>
           obtain rfl:=Oj9 ho
           exact wp_move (.tmp 0) rfl _ ((hout 0 (by kernel_rfl)).trans rfl) (tE rfl)
         | 1,ho,hsk=>
           obtain rfl:=Oj9 ho
           exact wp_move (.tmp 5) rfl _ ((hout 5 (by kernel_rfl)).trans rfl) (tE rfl)
         | 2,ho,hsk=>
           obtain rfl:=Oj9 ho
           have e0:a'.eval (.tmp 17)= .slice (some ⟨g,off,none⟩) L.length c:=is_tq (hin 0 17 (by kernel_rfl) (by kernel_rfl)) rfl
           have e1:a'.eval (.tmp 18)= .int .i64 j:=is_tq (hin 1 18 (by kernel_rfl) (by kernel_rfl)) rfl
           exact o_idx38n (.tmp 17) (.tmp 18) rfl g off L.length c j (unhide HJL) e0 e1 (tE rfl)
         | 3,ho,hsk=>
           obtain rfl:=Oj9 ho
           have e0:a'.eval (.tmp 19)= .pointer (some ⟨g,off+j*2,none⟩):=is_tq (hin 2 19 (by kernel_rfl) (by kernel_rfl)) rfl
           exact wp_loadA row41 (.tmp 19) rfl g (off+j*2) e0 (x.C) rfl (HR1 hk2) (tE rfl)
         | 4,ho,hsk=>
           obtain rfl:=Oj9 ho
           exact wp_move (.tmp 1) rfl _ ((hout 1 (by kernel_rfl)).trans rfl) (tE rfl)
         | 5,ho,hsk=>
           obtain rfl:=Oj9 ho
           exact wp_move (.tmp 5) rfl _ ((hout 5 (by kernel_rfl)).trans rfl) (tE rfl)
         | 6,ho,hsk=>
           obtain rfl:=Oj9 ho
           have e0:a'.eval (.tmp 21)= .slice (some ⟨q,oq,none⟩) M.length d:=is_tq (hin 4 21 (by kernel_rfl) (by kernel_rfl)) rfl
           have e1:a'.eval (.tmp 22)= .int .i64 j:=is_tq (hin 5 22 (by kernel_rfl) (by kernel_rfl)) rfl
           exact o_idx38n (.tmp 21) (.tmp 22) rfl q oq M.length d j hlt e0 e1 (tE rfl)
         | 7,ho,hsk=>
           obtain rfl:=Oj9 ho
           have e0:a'.eval (.tmp 23)= .pointer (some ⟨q,oq+j*2,none⟩):=is_tq (hin 6 23 (by kernel_rfl) (by kernel_rfl)) rfl
           exact wp_loadA row41 (.tmp 23) rfl q (oq+j*2) e0 (y.C) rfl (HR2 hk2) (tE rfl)
         | 8,ho,hsk=>
           obtain rfl:=Oj9 ho
           have e0:a'.eval (.tmp 20)=aggV x.C:=is_tq (hin 3 20 (by kernel_rfl) (by kernel_rfl)) rfl
           have e1:a'.eval (.tmp 24)=aggV y.C:=is_tq (hin 7 24 (by kernel_rfl) (by kernel_rfl)) rfl
           exact o_neqA 41 41 guard41 (.tmp 20) (.tmp 24) rfl (x.C) (y.C) e0 e1 true ((eqW41 _ _ _).trans (by rw [unhide HEQ])) (tE rfl)
       intro w9 hk9
       replace hk9:Kept [] wr w9:=⟨hk9.os,hk9.tape,hk9.output,hk9.size,hk9.block⟩
       simp only [valsQ,List.map_cons,List.map_nil,Option.getD_some,List.take_succ_cons,List.take_zero,putAll,Act.put,List.setIfInBounds_toArray,List.set_cons_succ,List.set_cons_zero]
       refine wpAny_done (by kernel_rfl) ?_ _
       go_wp2_with fail
       go_roundw
       case rel=>exact ⟨j+1,by omega,by go_num,HN2,(unhide HK).trans hk9⟩
       case measure=>simp [intOf];omega
     · have HEQ:Hid (decide (x=y)=false):=by simpa [Hid] using he
       have HNE:Hid (¬L.take M.length=M):=by
         intro e
         have h1:=unhide HY
         rw [← e,List.getElem?_take_of_lt hlt,unhide HX] at h1
         cases h1;exact he rfl
       clear he
       go_wp2_with fail
       refine wp_region_any mixed (wpAny_tq 9 rfl (by kernel_rfl) [some (.slice (some ⟨g,off,none⟩) L.length c),some (.int .i64 j),some (.pointer (some ⟨g,off+j*2,none⟩)),some (aggV x.C),some (.slice (some ⟨q,oq,none⟩) M.length d),some (.int .i64 j),some (.pointer (some ⟨q,oq+j*2,none⟩)),some (aggV y.C),some (.bool true)] rfl (by kernel_rfl) (by kernel_rfl) ?_ ?_)
       · intro i o' hi hsk ho a' w2 hout hin hk2
         replace hk2:Kept [] wr w2:=⟨hk2.os,hk2.tape,hk2.output,hk2.size,hk2.block⟩
         match i,ho,hsk with
         | 0,ho,hsk=>
           obtain rfl:=Oj9 ho
           exact wp_move (.tmp 0) rfl _ ((hout 0 (by kernel_rfl)).trans rfl) (tE rfl)
         | 1,ho,hsk=>
           obtain rfl:=Oj9 ho
           exact wp_move (.tmp 5) rfl _ ((hout 5 (by kernel_rfl)).trans rfl) (tE rfl)
         | 2,ho,hsk=>
           obtain rfl:=Oj9 ho
           have e0:a'.eval (.tmp 17)= .slice (some ⟨g,off,none⟩) L.length c:=is_tq (hin 0 17 (by kernel_rfl) (by kernel_rfl)) rfl
           have e1:a'.eval (.tmp 18)= .int .i64 j:=is_tq (hin 1 18 (by kernel_rfl) (by kernel_rfl)) rfl
           exact o_idx38n (.tmp 17) (.tmp 18) rfl g off L.length c j (unhide HJL) e0 e1 (tE rfl)
         | 3,ho,hsk=>
           obtain rfl:=Oj9 ho
           have e0:a'.eval (.tmp 19)= .pointer (some ⟨g,off+j*2,none⟩):=is_tq (hin 2 19 (by kernel_rfl) (by kernel_rfl)) rfl
           exact wp_loadA row41 (.tmp 19) rfl g (off+j*2) e0 (x.C) rfl (HR1 hk2) (tE rfl)
         | 4,ho,hsk=>
           obtain rfl:=Oj9 ho
           exact wp_move (.tmp 1) rfl _ ((hout 1 (by kernel_rfl)).trans rfl) (tE rfl)
         | 5,ho,hsk=>
           obtain rfl:=Oj9 ho
           exact wp_move (.tmp 5) rfl _ ((hout 5 (by kernel_rfl)).trans rfl) (tE rfl)
         | 6,ho,hsk=>
           obtain rfl:=Oj9 ho
           have e0:a'.eval (.tmp 21)= .slice (some ⟨q,oq,none⟩) M.length d:=is_tq (hin 4 21 (by kernel_rfl) (by kernel_rfl)) rfl
           have e1:a'.eval (.tmp 22)= .int .i64 j:=is_tq (hin 5 22 (by kernel_rfl) (by kernel_rfl)) rfl
           exact o_idx38n (.tmp 21) (.tmp 22) rfl q oq M.length d j hlt e0 e1 (tE rfl)
         | 7,ho,hsk=>
           obtain rfl:=Oj9 ho
           have e0:a'.eval (.tmp 23)= .pointer (some ⟨q,oq+j*2,none⟩):=is_tq (hin 6 23 (by kernel_rfl) (by kernel_rfl)) rfl
           exact wp_loadA row41 (.tmp 23) rfl q (oq+j*2) e0 (y.C) rfl (HR2 hk2) (tE rfl)
         | 8,ho,hsk=>
           obtain rfl:=Oj9 ho
           have e0:a'.eval (.tmp 20)=aggV x.C:=is_tq (hin 3 20 (by kernel_rfl) (by kernel_rfl)) rfl
           have e1:a'.eval (.tmp 24)=aggV y.C:=is_tq (hin 7 24 (by kernel_rfl) (by kernel_rfl)) rfl
           exact o_neqA 41 41 guard41 (.tmp 20) (.tmp 24) rfl (x.C) (y.C) e0 e1 false ((eqW41 _ _ _).trans (by rw [unhide HEQ])) (tE rfl)
       intro w9 hk9
       replace hk9:Kept [] wr w9:=⟨hk9.os,hk9.tape,hk9.output,hk9.size,hk9.block⟩
       simp only [valsQ,List.map_cons,List.map_nil,Option.getD_some,List.take_succ_cons,List.take_zero,putAll,Act.put,List.setIfInBounds_toArray,List.set_cons_succ,List.set_cons_zero]
       refine wpAny_done (by kernel_rfl) ?_ _
       go_wp2_with fail
       go_ret
       exact⟨by rw [decide_eq_false (unhide HNE)];rfl,(unhide HK).trans hk9⟩
   · have hd:decide ((j:Int)<M.length)=false:=by simp;omega
     have HE:Hid (L.take M.length=M):=by
       apply List.ext_getElem?
       intro i
       by_cases hi:i<M.length
       · rw [List.getElem?_take_of_lt hi];exact unhide HN i (by omega)
       · rw [List.getElem?_eq_none (by rw [List.length_take];omega),List.getElem?_eq_none (by omega)]
     go_wp2_with fail
     go_ret
     exact⟨by rw [decide_eq_true (unhide HE)];rfl,unhide HK⟩
end Go.Proofs.Ytabicgbnloabnaa
