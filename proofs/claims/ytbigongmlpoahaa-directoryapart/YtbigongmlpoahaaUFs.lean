import Derived.Test.YtbigongmlpoahaaUNi
namespace Go.Proofs.Ytbigongmlpoahaa
set_option maxHeartbeats 2000000
set_option maxRecDepth 100000
set_option linter.unusedSimpArgs false
open Go.RowKit
theorem like_self {α:Type} [DecidableEq α] (f:Nat→α):like f f=true:=like_iff.2 (fun _ _=>rfl)
theorem Bo.ops_at (B:Bo) (x y z:Value) (n:Nat) (h:n<8):(B.C x y z)[4+n]?=some (.int .i64 (B.ops n)):=by
 rcases (show n=0∨n=1∨n=2∨n=3∨n=4∨n=5∨n=6∨n=7 by omega) with rfl | rfl | rfl | rfl | rfl | rfl | rfl | rfl <;> rfl
theorem Blk.boOps {w:World} {b T:Nat} {B:Bo} {x y z:Value} (h:Blk w b T (B.C x y z)):w.rangeAt b 4 (i8 B.ops):=h.rangeIn _ (fun j hj=>by
 have hj8:j<8:=hj
 rw [B.ops_at x y z j hj8,i8_at B.ops j hj8])
theorem Blk.boHand {w:World} {b T:Nat} {B:Bo} {x y z:Value} (h:Blk w b T (B.C x y z)):w.rangeAt b 13 (Wi.mk B.hn B.hk).C:=h.rangeIn _ (fun j hj=>by
 have hj2:j<2:=hj
 rcases (show j=0∨j=1 by omega) with rfl | rfl <;> rfl)
theorem ints39 (L:List Int) (u v:Value) (w:World) (h:Is w u L) (k:Is w v L) (hL:L.length≤100000):Calls Try.prog 37 #[u,v] w fun e w'=>e= .returned (.bool true)∧Kept [] w w':=by
 obtain⟨ao,c,rfl,_,_⟩:=h.sl
 obtain⟨bo,d,rfl,_,_⟩:=k.sl
 have H1:=hide h
 have H2:=hide k
 clear h k
 go_enter Try.func37,Try.ntmps37
 go_wp2_with fail
 go_loopw [5] (fun i wr=>∃j:Nat,j≤L.length∧i= .int .i64 j∧Hid (Kept [] w wr)) (fun i _=>L.length-(intOf i).toNat)
 case atStart=>exact ⟨0,by omega,rfl,Kept.refl _ _⟩
 case round=>
   obtain⟨j,hj,rfl,HK⟩:=hrel
   by_cases hlt:j<L.length
   · have hjI:(j:Int)<L.length:=by omega
     have hd:decide ((j:Int)<L.length)=true:=by simpa using hjI
     obtain⟨x,hx⟩:∃x,L[j]?=some x:=⟨_,List.getElem?_eq_getElem hlt⟩
     obtain⟨g,off,c',e,hr⟩:=Is.get ((unhide H1).kept (unhide HK) (by simp)) hx
     cases e
     obtain⟨q,oq,d',e,hq⟩:=Is.get ((unhide H2).kept (unhide HK) (by simp)) hx
     cases e
     clear hx
     go_wp2_with fail
     refine wp_region_any mixed (wpAny_tq 9 rfl (by kernel_rfl) [some (.slice (some ⟨g,off,none⟩) L.length c),some (.int .i64 j),some (.pointer (some ⟨g,off+j,none⟩)),some (.int .i64 x),some (.slice (some ⟨q,oq,none⟩) L.length d),some (.int .i64 j),some (.pointer (some ⟨q,oq+j,none⟩)),some (.int .i64 x),some (.bool false)] rfl (by kernel_rfl) (by kernel_rfl) ?_ ?_)
     · intro i o' hi hsk ho a' w2 hout hin hk2
       replace hk2:Kept [] wr w2:=ud hk2
       match i,ho,hsk with
       | 0,ho,hsk=>
         cases ho
         exact wp_move (.tmp 0) rfl _ ((ho9 hout 0).trans rfl) (tE rfl)
       | 1,ho,hsk=>
         cases ho
         exact wp_move (.tmp 5) rfl _ ((ho9 hout 5).trans rfl) (tE rfl)
       | 2,ho,hsk=>
         cases ho
         exact o_idx36n (.tmp 17) (.tmp 18) rfl g off L.length c j hlt (is_tq (hi9 hin 0 17) rfl) (is_tq (hi9 hin 1 18) rfl) (tE rfl)
       | 3,ho,hsk=>
         cases ho
         exact o_load3 (.tmp 19) rfl _ _ (is_tq (hi9 hin 2 19) rfl) (hk2.cell hr (by simp)) (tE rfl)
       | 4,ho,hsk=>
         cases ho
         exact wp_move (.tmp 1) rfl _ ((ho9 hout 1).trans rfl) (tE rfl)
       | 5,ho,hsk=>
         cases ho
         exact wp_move (.tmp 5) rfl _ ((ho9 hout 5).trans rfl) (tE rfl)
       | 6,ho,hsk=>
         cases ho
         exact o_idx36n (.tmp 21) (.tmp 22) rfl q oq L.length d j hlt (is_tq (hi9 hin 4 21) rfl) (is_tq (hi9 hin 5 22) rfl) (tE rfl)
       | 7,ho,hsk=>
         cases ho
         exact o_load3 (.tmp 23) rfl _ _ (is_tq (hi9 hin 6 23) rfl) (hk2.cell hq (by simp)) (tE rfl)
       | 8,ho,hsk=>
         cases ho
         exact c_neq3 (.tmp 20) (.tmp 24) rfl _ _ (true) (decide_eq_true rfl) (is_tq (hi9 hin 3 20) rfl) (is_tq (hi9 hin 7 24) rfl) (tE rfl)
     intro w9 hk9
     replace hk9:Kept [] wr w9:=ud hk9
     simp only [valsQ,List.map_cons,List.map_nil,Option.getD_some,List.take_succ_cons,List.take_zero,putAll,Act.put,List.setIfInBounds_toArray,List.set_cons_succ,List.set_cons_zero]
     refine wpAny_done (by kernel_rfl) ?_ _
     go_wp2_with fail
     go_roundw
     case rel=>exact ⟨j+1,by omega,by go_num,(unhide HK).trans hk9⟩
     case measure=>simp [intOf];omega
   · have hd:decide ((j:Int)<L.length)=false:=by simp;omega
     go_wp2_with fail
     go_ret
     exact⟨rfl,unhide HK⟩
structure Bs (w:World) (B:Bo) (x y z:Value):Prop where
 sh:Is w x B.sh
 pa:Is w y B.pa
 ln:Ws w z B.ln
theorem Bs.kept {w w':World} {B:Bo} {x y z:Value} (h:Bs w B x y z) (hk:Kept [] w w'):Bs w' B x y z:=⟨h.sh.kept hk (by simp),h.pa.kept hk (by simp),h.ln.kept hk (by simp)⟩
section
variable {o:Oper} {a:Act} {w:World} {K:Act→World→Prop} {Q:Exit→Act→World→Prop}
theorem c_neq4 (x y:Operand) (ho:o.op= .binOp .neq 4 x y 4) (p:Bool) (hx:a.eval x= .bool p) (hy:a.eval y= .bool p) (h:K (a.put o.dst (.bool false)) w):o.wp Try.prog a w K Q:=by
 unfold Oper.wp execOp
 simp only [ho,hx,hy]
 simp [go_sem]
 exact h
end
end Go.Proofs.Ytbigongmlpoahaa
