import Derived.Test.YtabicgbnloabnaaVFq
namespace Go.Proofs.Ytabicgbnloabnaa
set_option maxRecDepth 100000
set_option linter.unusedSimpArgs false
open Go.RowKit
section
variable {o:Oper} {a:Act} {w:World} {K:Act→World→Prop} {Q:Exit→Act→World→Prop}
theorem o_idx28n (x y:Operand) (ho:o.op= .indexAddr 28 x y) (g off n c j:Nat) (hj:j<n) (hx:a.eval x= .slice (some ⟨g,off,none⟩) n c) (hy:a.eval y= .int .i64 j) (h:K (a.put o.dst (.pointer (some ⟨g,off+j*6,none⟩))) w):o.wp Try.prog a w K Q:=by
 have hjI:(j:Int)<n:=by omega
 unfold Oper.wp execOp
 simp only [ho,hx,hy]
 simp [go_sem,hj,hjI]
 exact h
end
theorem list_eq_of {α:Type} {L M:List α} {j:Nat} (hl:L.length=M.length) (h:∀k,k<j→L[k]?=M[k]?) (hj:¬j<L.length):L=M:=by
 apply List.ext_getElem?
 intro i
 by_cases hi:i<j
 · exact h i hi
 · rw [List.getElem?_eq_none (by omega),List.getElem?_eq_none (by omega)]
set_option maxHeartbeats 2000000 in
theorem same13 (L M:List Od) (u v:Value) (w:World) (h:Os w u L) (k:Os w v M) (hL:L.length≤100000):Calls Try.prog 13 #[u,v] w fun e w'=>e= .returned (.bool (decide (L=M)))∧Kept [] w w':=by
 obtain⟨ao,c,rfl,_,_⟩:=h.sl
 obtain⟨bo,d,rfl,_,_⟩:=k.sl
 have H1:=hide h
 have H2:=hide k
 clear h k
 by_cases hl:L.length=M.length
 rotate_left
 · have h1:¬(L.length:Int)=M.length:=by omega
   have h2:=nef_a h1
   have h3:=nef_c h1
   have h4:((L.length:Int) == (M.length:Int))=false:=nef_b h1
   go_enter Try.func13,Try.ntmps13
   go_wp2_with fail
   go_ret
   exact⟨by rw [decide_eq_false (fun e=>hl (by rw [e]))];rfl,Kept.refl _ _⟩
 have HL:=hide hl
 rw [← hl] at H2⊢
 clear hl
 go_enter Try.func13,Try.ntmps13
 go_wp2_with fail
 go_loopw [5] (fun i wr=>∃j:Nat,j≤L.length∧i= .int .i64 j∧Hid (∀k,k<j→L[k]?=M[k]?)∧Hid (Kept [] w wr)) (fun i _=>L.length-(intOf i).toNat)
 case atStart=>exact ⟨0,by omega,rfl,fun k hk=>by omega,Kept.refl _ _⟩
 case round=>
   obtain⟨j,hj,rfl,HN,HK⟩:=hrel
   by_cases hlt:j<L.length
   · have hjI:(j:Int)<L.length:=by omega
     have hd:decide ((j:Int)<L.length)=true:=by simpa using hjI
     obtain⟨x,hx⟩:∃x,L[j]?=some x:=⟨_,List.getElem?_eq_getElem hlt⟩
     obtain⟨y,hy⟩:∃y,M[j]?=some y:=⟨_,List.getElem?_eq_getElem (by have:=unhide HL;omega)⟩
     obtain⟨g,off,c',e,hr⟩:=Os.get ((unhide H1).kept (unhide HK) (by simp)) hx
     cases e
     obtain⟨q,oq,d',e,hq⟩:=Os.get (by have h9:=(unhide H2).kept (unhide HK) (by simp);rw [unhide HL] at h9;exact h9) hy
     rw [← unhide HL] at e
     cases e
     have HR1:∀ {W:World},Kept [] wr W→W.rangeAt g (off+j*6) x.C:=fun hk k u hu=>hk.cell (hr k u hu) (by simp)
     have HR2:∀ {W:World},Kept [] wr W→W.rangeAt q (oq+j*6) y.C:=fun hk k u hu=>hk.cell (hq k u hu) (by simp)
     have HX:=hide hx
     have HY:=hide hy
     clear hx hy
     by_cases he:x=y
     · have HEQ:Hid (decide (x=y)=true):=by simpa [Hid] using he
       have HN2:Hid (∀k,k<j+1→L[k]?=M[k]?):=by
         intro k hk
         by_cases hkj:k=j
         · subst hkj;rw [unhide HX,unhide HY,he]
         · exact unhide HN k (by omega)
       clear he
       go_wp2_with fail
       refine wp_region_any mixed (wpAny_tq 9 rfl (by kernel_rfl) [some (.slice (some ⟨g,off,none⟩) L.length c),some (.int .i64 j),some (.pointer (some ⟨g,off+j*6,none⟩)),some (aggV x.C),some (.slice (some ⟨q,oq,none⟩) L.length d),some (.int .i64 j),some (.pointer (some ⟨q,oq+j*6,none⟩)),some (aggV y.C),some (.bool false)] rfl (by kernel_rfl) (by kernel_rfl) ?_ ?_)
       · intro i o' hi hsk ho a' w2 hout hin hk2
         replace hk2:Kept [] wr w2:=⟨hk2.os,hk2.tape,hk2.output,hk2.size,hk2.block⟩
         match i,ho,hsk with
         | 0,ho,hsk=>
           obtain rfl:=Oj9 ho
           exact wp_move (.tmp 0) rfl _ ((hout 0 (by kernel_rfl)).trans rfl) (tE rfl)
         | 1,ho,hsk=>
           obtain rfl:=Oj9 ho
           exact wp_move (.tmp 5) rfl _ ((hout 5 (by kernel_rfl)).trans rfl) (tE rfl)
         | 2,ho,hsk=>
           obtain rfl:=Oj9 ho
           have e0:a'.eval (.tmp 17)= .slice (some ⟨g,off,none⟩) L.length c:=is_tq (hin 0 17 (by kernel_rfl) (by kernel_rfl)) rfl
           have e1:a'.eval (.tmp 18)= .int .i64 j:=is_tq (hin 1 18 (by kernel_rfl) (by kernel_rfl)) rfl
           exact o_idx28n (.tmp 17) (.tmp 18) rfl g off L.length c j hlt e0 e1 (tE rfl)
         | 3,ho,hsk=>
           obtain rfl:=Oj9 ho
           have e0:a'.eval (.tmp 19)= .pointer (some ⟨g,off+j*6,none⟩):=is_tq (hin 2 19 (by kernel_rfl) (by kernel_rfl)) rfl
           exact wp_loadA row65 (.tmp 19) rfl g (off+j*6) e0 (x.C) rfl (HR1 hk2) (tE rfl)
         | 4,ho,hsk=>
           obtain rfl:=Oj9 ho
           exact wp_move (.tmp 1) rfl _ ((hout 1 (by kernel_rfl)).trans rfl) (tE rfl)
         | 5,ho,hsk=>
           obtain rfl:=Oj9 ho
           exact wp_move (.tmp 5) rfl _ ((hout 5 (by kernel_rfl)).trans rfl) (tE rfl)
         | 6,ho,hsk=>
           obtain rfl:=Oj9 ho
           have e0:a'.eval (.tmp 21)= .slice (some ⟨q,oq,none⟩) L.length d:=is_tq (hin 4 21 (by kernel_rfl) (by kernel_rfl)) rfl
           have e1:a'.eval (.tmp 22)= .int .i64 j:=is_tq (hin 5 22 (by kernel_rfl) (by kernel_rfl)) rfl
           exact o_idx28n (.tmp 21) (.tmp 22) rfl q oq L.length d j hlt e0 e1 (tE rfl)
         | 7,ho,hsk=>
           obtain rfl:=Oj9 ho
           have e0:a'.eval (.tmp 23)= .pointer (some ⟨q,oq+j*6,none⟩):=is_tq (hin 6 23 (by kernel_rfl) (by kernel_rfl)) rfl
           exact wp_loadA row65 (.tmp 23) rfl q (oq+j*6) e0 (y.C) rfl (HR2 hk2) (tE rfl)
         | 8,ho,hsk=>
           obtain rfl:=Oj9 ho
           have e0:a'.eval (.tmp 20)=aggV x.C:=is_tq (hin 3 20 (by kernel_rfl) (by kernel_rfl)) rfl
           have e1:a'.eval (.tmp 24)=aggV y.C:=is_tq (hin 7 24 (by kernel_rfl) (by kernel_rfl)) rfl
           exact o_neqA 65 65 guard65 (.tmp 20) (.tmp 24) rfl (x.C) (y.C) e0 e1 true ((eqO65 _ _ _).trans (by rw [unhide HEQ])) (tE rfl)
       intro w9 hk9
       replace hk9:Kept [] wr w9:=⟨hk9.os,hk9.tape,hk9.output,hk9.size,hk9.block⟩
       simp only [valsQ,List.map_cons,List.map_nil,Option.getD_some,List.take_succ_cons,List.take_zero,putAll,Act.put,List.setIfInBounds_toArray,List.set_cons_succ,List.set_cons_zero]
       refine wpAny_done (by kernel_rfl) ?_ _
       go_wp2_with fail
       go_roundw
       case rel=>exact ⟨j+1,by omega,by go_num,HN2,(unhide HK).trans hk9⟩
       case measure=>simp [intOf];omega
     · have HEQ:Hid (decide (x=y)=false):=by simpa [Hid] using he
       have HNE:Hid (L≠M):=by
         intro e
         have h1:=unhide HX
         rw [e,unhide HY] at h1
         cases h1;exact he rfl
       clear he
       go_wp2_with fail
       refine wp_region_any mixed (wpAny_tq 9 rfl (by kernel_rfl) [some (.slice (some ⟨g,off,none⟩) L.length c),some (.int .i64 j),some (.pointer (some ⟨g,off+j*6,none⟩)),some (aggV x.C),some (.slice (some ⟨q,oq,none⟩) L.length d),some (.int .i64 j),some (.pointer (some ⟨q,oq+j*6,none⟩)),some (aggV y.C),some (.bool true)] rfl (by kernel_rfl) (by kernel_rfl) ?_ ?_)
       · intro i o' hi hsk ho a' w2 hout hin hk2
         replace hk2:Kept [] wr w2:=⟨hk2.os,hk2.tape,hk2.output,hk2.size,hk2.block⟩
         match i,ho,hsk with
         | 0,ho,hsk=>
           obtain rfl:=Oj9 ho
           exact wp_move (.tmp 0) rfl _ ((hout 0 (by kernel_rfl)).trans rfl) (tE rfl)
         | 1,ho,hsk=>
           obtain rfl:=Oj9 ho
           exact wp_move (.tmp 5) rfl _ ((hout 5 (by kernel_rfl)).trans rfl) (tE rfl)
         | 2,ho,hsk=>
           obtain rfl:=Oj9 ho
           have e0:a'.eval (.tmp 17)= .slice (some ⟨g,off,none⟩) L.length c:=is_tq (hin 0 17 (by kernel_rfl) (by kernel_rfl)) rfl
           have e1:a'.eval (.tmp 18)= .int .i64 j:=is_tq (hin 1 18 (by kernel_rfl) (by kernel_rfl)) rfl
           exact o_idx28n (.tmp 17) (.tmp 18) rfl g off L.length c j hlt e0 e1 (tE rfl)
         | 3,ho,hsk=>
           obtain rfl:=Oj9 ho
           have e0:a'.eval (.tmp 19)= .pointer (some ⟨g,off+j*6,none⟩):=is_tq (hin 2 19 (by kernel_rfl) (by kernel_rfl)) rfl
           exact wp_loadA row65 (.tmp 19) rfl g (off+j*6) e0 (x.C) rfl (HR1 hk2) (tE rfl)
         | 4,ho,hsk=>
           obtain rfl:=Oj9 ho
           exact wp_move (.tmp 1) rfl _ ((hout 1 (by kernel_rfl)).trans rfl) (tE rfl)
         | 5,ho,hsk=>
           obtain rfl:=Oj9 ho
           exact wp_move (.tmp 5) rfl _ ((hout 5 (by kernel_rfl)).trans rfl) (tE rfl)
         | 6,ho,hsk=>
           obtain rfl:=Oj9 ho
           have e0:a'.eval (.tmp 21)= .slice (some ⟨q,oq,none⟩) L.length d:=is_tq (hin 4 21 (by kernel_rfl) (by kernel_rfl)) rfl
           have e1:a'.eval (.tmp 22)= .int .i64 j:=is_tq (hin 5 22 (by kernel_rfl) (by kernel_rfl)) rfl
           exact o_idx28n (.tmp 21) (.tmp 22) rfl q oq L.length d j hlt e0 e1 (tE rfl)
         | 7,ho,hsk=>
           obtain rfl:=Oj9 ho
           have e0:a'.eval (.tmp 23)= .pointer (some ⟨q,oq+j*6,none⟩):=is_tq (hin 6 23 (by kernel_rfl) (by kernel_rfl)) rfl
           exact wp_loadA row65 (.tmp 23) rfl q (oq+j*6) e0 (y.C) rfl (HR2 hk2) (tE rfl)
         | 8,ho,hsk=>
           obtain rfl:=Oj9 ho
           have e0:a'.eval (.tmp 20)=aggV x.C:=is_tq (hin 3 20 (by kernel_rfl) (by kernel_rfl)) rfl
           have e1:a'.eval (.tmp 24)=aggV y.C:=is_tq (hin 7 24 (by kernel_rfl) (by kernel_rfl)) rfl
           exact o_neqA 65 65 guard65 (.tmp 20) (.tmp 24) rfl (x.C) (y.C) e0 e1 false ((eqO65 _ _ _).trans (by rw [unhide HEQ])) (tE rfl)
       intro w9 hk9
       replace hk9:Kept [] wr w9:=⟨hk9.os,hk9.tape,hk9.output,hk9.size,hk9.block⟩
       simp only [valsQ,List.map_cons,List.map_nil,Option.getD_some,List.take_succ_cons,List.take_zero,putAll,Act.put,List.setIfInBounds_toArray,List.set_cons_succ,List.set_cons_zero]
       refine wpAny_done (by kernel_rfl) ?_ _
       go_wp2_with fail
       go_ret
       exact⟨by rw [decide_eq_false (unhide HNE)];rfl,(unhide HK).trans hk9⟩
   · have hd:decide ((j:Int)<L.length)=false:=by simp;omega
     have HE:Hid (L=M):=list_eq_of (unhide HL) (unhide HN) hlt
     go_wp2_with fail
     go_ret
     exact⟨by rw [decide_eq_true (unhide HE)];rfl,unhide HK⟩
theorem is27 (L M:List Od) (u v:Value) (w:World) (h:Os w u L) (k:Os w v M) (hL:L.length≤100000):Calls Try.prog 27 #[u,v] w fun e w'=>e= .returned (.bool (decide (L=M)))∧Kept [] w w':=by
 have P:=hide (same13 L M u v w h k hL)
 clear h k
 go_enter Try.func27,Try.ntmps27
 go_wp2_with (first |(go_at_call 13;refine(unhide P).mono ?_;rintro e W1 ⟨rfl,K1⟩;have HK:=hide K1;clear K1;refine Stp.go ?_))
 constructor
 go_wp2_with fail
 go_ret
 exact⟨rfl,unhide HK⟩
def od0:Od:=⟨0,0,0,0,0,0⟩
theorem zero65 (w:World):(Instr.alloc 65 true (.tuple #[])).run Try.prog w= .ok (P0 w.heap.size) (w.alloc (.cells od0.C.toArray 65)):=by kernel_rfl
theorem order28 (x:Od) (w:World):Calls Try.prog 28 #[.int .i64 x.k,.int .i64 x.t,.int .i64 x.o,.int .i64 x.m,.int .i64 x.n,.int .i64 x.p] w fun e w'=>e= .returned (aggV x.C)∧Kept [] w w':=by
 go_enter Try.func28,Try.ntmps28
 have M:Hid (Mm [] w w []):=hide Mm.init
 go_wp2_with (first |(refine wpAllocW (od0.C) zero65 12 rfl rfl rfl ?_;intro W1 b1 e1 B1 K1;replace M:=hide ((unhide M).new e1 B1 K1);clear e1 B1 K1;refine Stp.go ?_))
 constructor
 go_wp2_with (first |(refine wpBuildP (by rfl) #[(0,.tmp 13),(1,.tmp 14),(2,.tmp 15),(3,.tmp 16),(4,.tmp 17),(5,.tmp 18)] (by rfl) #[(0,.int .i64 x.k),(1,.int .i64 x.t),(2,.int .i64 x.o),(3,.int .i64 x.m),(4,.int .i64 x.n),(5,.int .i64 x.p)] (by kernel_rfl) x.C (boe _ _ _ _ _ _ _) ?_;refine Stp.go ?_))
 constructor
 go_wp2_with (first |(refine wpStoreM row65 rfl (.tmp 12) (.tmp 19) rfl rfl b1 0 (x.C) rfl rfl rfl (Od.one _) (unhide M) rfl rfl ?_;intro W2 N2;replace M:Hid (Mm [] w W2 [(b1,65,x.C)]):=hide N2;clear N2;refine Stp.go ?_))
 constructor
 go_wp2_with fail
 refine bodyPost_ret (v:=aggV x.C) ?_ rfl ?_
 · exact res28 _ _ _ _ rfl rfl ((unhide M).at 0 _ rfl)
 exact⟨rfl,(unhide M).kept⟩
end Go.Proofs.Ytabicgbnloabnaa
