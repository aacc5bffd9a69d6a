import Derived.Test.YtabicgbnloabnaaWNi
namespace Go.Proofs.Ytabicgbnloabnaa
set_option maxRecDepth 100000
set_option linter.unusedSimpArgs false
open Go.RowKit
theorem like_self {α:Type} [DecidableEq α] (f:Nat→α):like f f=true:=like_iff.2 (fun _ _=>rfl)
theorem Bo.ops_at (B:Bo) (x y z:Value) (n:Nat) (h:n<8):(B.C x y z)[4+n]?=some (.int .i64 (B.ops n)):=by
 rcases (show n=0∨n=1∨n=2∨n=3∨n=4∨n=5∨n=6∨n=7 by omega) with rfl | rfl | rfl | rfl | rfl | rfl | rfl | rfl <;> rfl
theorem Blk.boOps {w:World} {b T:Nat} {B:Bo} {x y z:Value} (h:Blk w b T (B.C x y z)):w.rangeAt b 4 (i8 B.ops):=h.rangeIn _ (fun j hj=>by
 have hj8:j<8:=hj
 rw [B.ops_at x y z j hj8,i8_at B.ops j hj8])
theorem Blk.boHand {w:World} {b T:Nat} {B:Bo} {x y z:Value} (h:Blk w b T (B.C x y z)):w.rangeAt b 13 (Wi.mk B.hn B.hk).C:=h.rangeIn _ (fun j hj=>by
 have hj2:j<2:=hj
 rcases (show j=0∨j=1 by omega) with rfl | rfl <;> rfl)
set_option maxHeartbeats 2000000 in
theorem ints39 (L:List Int) (u v:Value) (w:World) (h:Is w u L) (k:Is w v L) (hL:L.length≤100000):Calls Try.prog 39 #[u,v] w fun e w'=>e= .returned (.bool true)∧Kept [] w w':=by
 obtain⟨ao,c,rfl,_,_⟩:=h.sl
 obtain⟨bo,d,rfl,_,_⟩:=k.sl
 have H1:=hide h
 have H2:=hide k
 clear h k
 go_enter Try.func39,Try.ntmps39
 go_wp2_with fail
 go_loopw [5] (fun i wr=>∃j:Nat,j≤L.length∧i= .int .i64 j∧Hid (Kept [] w wr)) (fun i _=>L.length-(intOf i).toNat)
 case atStart=>exact ⟨0,by omega,rfl,Kept.refl _ _⟩
 case round=>
   obtain⟨j,hj,rfl,HK⟩:=hrel
   by_cases hlt:j<L.length
   · have hjI:(j:Int)<L.length:=by omega
     have hd:decide ((j:Int)<L.length)=true:=by simpa using hjI
     obtain⟨x,hx⟩:∃x,L[j]?=some x:=⟨_,List.getElem?_eq_getElem hlt⟩
     obtain⟨g,off,c',e,hr⟩:=Is.get ((unhide H1).kept (unhide HK) (by simp)) hx
     cases e
     obtain⟨q,oq,d',e,hq⟩:=Is.get ((unhide H2).kept (unhide HK) (by simp)) hx
     cases e
     clear hx
     go_wp2_with fail
     refine wp_region_any mixed (wpAny_tq 9 rfl (by kernel_rfl) [some (.slice (some ⟨g,off,none⟩) L.length c),some (.int .i64 j),some (.pointer (some ⟨g,off+j,none⟩)),some (.int .i64 x),some (.slice (some ⟨q,oq,none⟩) L.length d),some (.int .i64 j),some (.pointer (some ⟨q,oq+j,none⟩)),some (.int .i64 x),some (.bool false)] rfl (by kernel_rfl) (by kernel_rfl) ?_ ?_)
     · intro i o' hi hsk ho a' w2 hout hin hk2
       replace hk2:Kept [] wr w2:=⟨hk2.os,hk2.tape,hk2.output,hk2.size,hk2.block⟩
       match i,ho,hsk with
       | 0,ho,hsk=>
         obtain rfl:=Oj9 ho
         exact wp_move (.tmp 0) rfl _ ((hout 0 (by kernel_rfl)).trans rfl) (tE rfl)
       | 1,ho,hsk=>
         obtain rfl:=Oj9 ho
         exact wp_move (.tmp 5) rfl _ ((hout 5 (by kernel_rfl)).trans rfl) (tE rfl)
       | 2,ho,hsk=>
         obtain rfl:=Oj9 ho
         have e0:a'.eval (.tmp 17)= .slice (some ⟨g,off,none⟩) L.length c:=is_tq (hin 0 17 (by kernel_rfl) (by kernel_rfl)) rfl
         have e1:a'.eval (.tmp 18)= .int .i64 j:=is_tq (hin 1 18 (by kernel_rfl) (by kernel_rfl)) rfl
         exact o_idx36n (.tmp 17) (.tmp 18) rfl g off L.length c j hlt e0 e1 (tE rfl)
       | 3,ho,hsk=>
         obtain rfl:=Oj9 ho
         have e0:a'.eval (.tmp 19)= .pointer (some ⟨g,off+j,none⟩):=is_tq (hin 2 19 (by kernel_rfl) (by kernel_rfl)) rfl
         exact o_load3 (.tmp 19) rfl _ _ e0 (hk2.cell hr (by simp)) (tE rfl)
       | 4,ho,hsk=>
         obtain rfl:=Oj9 ho
         exact wp_move (.tmp 1) rfl _ ((hout 1 (by kernel_rfl)).trans rfl) (tE rfl)
       | 5,ho,hsk=>
         obtain rfl:=Oj9 ho
         exact wp_move (.tmp 5) rfl _ ((hout 5 (by kernel_rfl)).trans rfl) (tE rfl)
       | 6,ho,hsk=>
         obtain rfl:=Oj9 ho
         have e0:a'.eval (.tmp 21)= .slice (some ⟨q,oq,none⟩) L.length d:=is_tq (hin 4 21 (by kernel_rfl) (by kernel_rfl)) rfl
         have e1:a'.eval (.tmp 22)= .int .i64 j:=is_tq (hin 5 22 (by kernel_rfl) (by kernel_rfl)) rfl
         exact o_idx36n (.tmp 21) (.tmp 22) rfl q oq L.length d j hlt e0 e1 (tE rfl)
       | 7,ho,hsk=>
         obtain rfl:=Oj9 ho
         have e0:a'.eval (.tmp 23)= .pointer (some ⟨q,oq+j,none⟩):=is_tq (hin 6 23 (by kernel_rfl) (by kernel_rfl)) rfl
         exact o_load3 (.tmp 23) rfl _ _ e0 (hk2.cell hq (by simp)) (tE rfl)
       | 8,ho,hsk=>
         obtain rfl:=Oj9 ho
         have e0:a'.eval (.tmp 20)= .int .i64 x:=is_tq (hin 3 20 (by kernel_rfl) (by kernel_rfl)) rfl
         have e1:a'.eval (.tmp 24)= .int .i64 x:=is_tq (hin 7 24 (by kernel_rfl) (by kernel_rfl)) rfl
         exact c_neq3 (.tmp 20) (.tmp 24) rfl _ _ (true) (decide_eq_true rfl) e0 e1 (tE rfl)
     intro w9 hk9
     replace hk9:Kept [] wr w9:=⟨hk9.os,hk9.tape,hk9.output,hk9.size,hk9.block⟩
     simp only [valsQ,List.map_cons,List.map_nil,Option.getD_some,List.take_succ_cons,List.take_zero,putAll,Act.put,List.setIfInBounds_toArray,List.set_cons_succ,List.set_cons_zero]
     refine wpAny_done (by kernel_rfl) ?_ _
     go_wp2_with fail
     go_roundw
     case rel=>exact ⟨j+1,by omega,by go_num,(unhide HK).trans hk9⟩
     case measure=>simp [intOf];omega
   · have hd:decide ((j:Int)<L.length)=false:=by simp;omega
     go_wp2_with fail
     go_ret
     exact⟨rfl,unhide HK⟩
structure Bs (w:World) (B:Bo) (x y z:Value):Prop where
 sh:Is w x B.sh
 pa:Is w y B.pa
 ln:Ws w z B.ln
theorem Bs.kept {w w':World} {B:Bo} {x y z:Value} (h:Bs w B x y z) (hk:Kept [] w w'):Bs w' B x y z:=⟨h.sh.kept hk (by simp),h.pa.kept hk (by simp),h.ln.kept hk (by simp)⟩
section
variable {o:Oper} {a:Act} {w:World} {K:Act→World→Prop} {Q:Exit→Act→World→Prop}
theorem c_neq4 (x y:Operand) (ho:o.op= .binOp .neq 4 x y 4) (p:Bool) (hx:a.eval x= .bool p) (hy:a.eval y= .bool p) (h:K (a.put o.dst (.bool false)) w):o.wp Try.prog a w K Q:=by
 unfold Oper.wp execOp
 simp only [ho,hx,hy]
 simp [go_sem]
 exact h
end
set_option maxHeartbeats 40000000 in
theorem sameBook14 (B:Bo) (xv yv zv xu yu zu:Value) (w:World) (h:Bs w B xv yv zv) (k:Bs w B xu yu zu) (h1:B.sh.length≤1000) (h2:B.pa.length≤1000) (h3:B.ln.length≤1000):Calls Try.prog 14 #[aggV (B.C xv yv zv),aggV (B.C xu yu zu)] w fun e w'=>e= .returned (.bool true)∧Kept [] w w':=by
 obtain⟨x,cx,rfl,_,_⟩:=h.sh.sl
 obtain⟨y,cy,rfl,_,_⟩:=h.pa.sl
 obtain⟨z,cz,rfl,_,_⟩:=h.ln.sl
 obtain⟨x1,cx1,rfl,_,_⟩:=k.sh.sl
 obtain⟨y1,cy1,rfl,_,_⟩:=k.pa.sl
 obtain⟨z1,cz1,rfl,_,_⟩:=k.ln.sl
 have H1:=hide h
 have H2:=hide k
 clear h k
 have M:Hid (Mm [] w w []):=hide Mm.init
 go_enter Try.func14,Try.ntmps14
 go_wp2_with (first |(refine wpBoxV rfl (.tmp 0) rfl (B.C (.slice x B.sh.length cx) (.slice y B.pa.length cy) (.slice z B.ln.length cz)) rfl ?_;intro W1 b1 e1 B1 K1;replace M:=hide ((unhide M).new e1 B1 K1);clear e1 B1 K1;refine Stp.go ?_))
 constructor
 go_wp2_with (first |(refine wpBoxV rfl (.tmp 1) rfl (B.C (.slice x1 B.sh.length cx1) (.slice y1 B.pa.length cy1) (.slice z1 B.ln.length cz1)) rfl ?_;intro W2 b2 e2 B2 K2;replace M:=hide ((unhide M).new e2 B2 K2);clear e2 B2 K2;refine Stp.go ?_))
 constructor
 go_upto_region 1 with fail
 refine wp_text_tq 65 rfl (by kernel_rfl) [some (P0 b1),some (.int .i64 B.ex),some (P0 b2),some (.int .i64 B.ex),some (.bool false),some (.bool false),some (.pointer (some ⟨b1,1,none⟩)),some (.int .i64 B.ow),some (.pointer (some ⟨b2,1,none⟩)),some (.int .i64 B.ow),some (.bool false),some (.bool false),some (.bool false),some (.pointer (some ⟨b1,2,none⟩)),some (.slice x B.sh.length cx),some (.pointer (some ⟨b2,2,none⟩)),some (.slice x1 B.sh.length cx1),some (.bool true),some (.bool false),some (.bool false),some (.bool false),some (.pointer (some ⟨b1,3,none⟩)),some (.slice y B.pa.length cy),some (.pointer (some ⟨b2,3,none⟩)),some (.slice y1 B.pa.length cy1),some (.bool true),some (.bool false),some (.bool false),some (.bool false),some (.pointer (some ⟨b1,4,none⟩)),some (aggV (i8 B.ops)),some (.pointer (some ⟨b2,4,none⟩)),some (aggV (i8 B.ops)),some (.bool false),some (.bool false),some (.bool false),some (.pointer (some ⟨b1,12,none⟩)),some (.slice z B.ln.length cz),some (.int .i64 B.ln.length),some (.pointer (some ⟨b2,12,none⟩)),some (.slice z1 B.ln.length cz1),some (.int .i64 B.ln.length),some (.bool false),some (.bool false),some (.bool false),some (.pointer (some ⟨b1,13,none⟩)),some (aggV (Wi.C ⟨B.hn,B.hk⟩)),some (.pointer (some ⟨b2,13,none⟩)),some (aggV (Wi.C ⟨B.hn,B.hk⟩)),some (.bool false),some (.bool false),some (.bool false),some (.pointer (some ⟨b1,15,none⟩)),some (.bool B.bz),some (.pointer (some ⟨b2,15,none⟩)),some (.bool B.bz),some (.bool false),some (.bool false),some (.bool false),some (.pointer (some ⟨b1,16,none⟩)),some (.int .i64 B.op),some (.pointer (some ⟨b2,16,none⟩)),some (.int .i64 B.op),some (.bool false),some (.bool false)] rfl (by kernel_rfl) (by kernel_rfl) ?_ ?_
 · intro i o' hi hsk ho a' w2 hout hin hk2
   replace hk2:Kept [] W2 w2:=⟨hk2.os,hk2.tape,hk2.output,hk2.size,hk2.block⟩
   match i,ho,hsk with
   | 0,ho,hsk=>
     obtain rfl:=Oj9 ho
     exact o_fld43_0 (.tmp 2) rfl b1 (0) (0) rfl ((hout 2 (by kernel_rfl)).trans rfl) (tE rfl)
   | 1,ho,hsk=>
     obtain rfl:=Oj9 ho
     have e0:a'.eval (.tmp 6)=P0 b1:=is_tq (hin 0 6 (by kernel_rfl) (by kernel_rfl)) rfl
     exact o_load3 (.tmp 6) rfl _ _ e0 (fits_cell (((unhide M).step hk2).at 0 _ rfl) 0 _ rfl) (tE rfl)
   | 2,ho,hsk=>
     obtain rfl:=Oj9 ho
     exact o_fld43_0 (.tmp 3) rfl b2 (0) (0) rfl ((hout 3 (by kernel_rfl)).trans rfl) (tE rfl)
   | 3,ho,hsk=>
     obtain rfl:=Oj9 ho
     have e0:a'.eval (.tmp 8)=P0 b2:=is_tq (hin 2 8 (by kernel_rfl) (by kernel_rfl)) rfl
     exact o_load3 (.tmp 8) rfl _ _ e0 (fits_cell (((unhide M).step hk2).at 1 _ rfl) 0 _ rfl) (tE rfl)
   | 4,ho,hsk=>
     obtain rfl:=Oj9 ho
     have e0:a'.eval (.tmp 7)= .int .i64 B.ex:=is_tq (hin 1 7 (by kernel_rfl) (by kernel_rfl)) rfl
     have e1:a'.eval (.tmp 9)= .int .i64 B.ex:=is_tq (hin 3 9 (by kernel_rfl) (by kernel_rfl)) rfl
     exact c_neq3 (.tmp 7) (.tmp 9) rfl _ _ (true) (decide_eq_true rfl) e0 e1 (tE rfl)
   | 5,ho,hsk=>
     obtain rfl:=Oj9 ho
     have e0:a'.eval (.tmp 10)= .bool false:=is_tq (hin 4 10 (by kernel_rfl) (by kernel_rfl)) rfl
     exact wp_move (.tmp 10) rfl _ e0 (tE rfl)
   | 6,ho,hsk=>
     obtain rfl:=Oj9 ho
     exact o_fld43_1 (.tmp 2) rfl b1 (0) (1) rfl ((hout 2 (by kernel_rfl)).trans rfl) (tE rfl)
   | 7,ho,hsk=>
     obtain rfl:=Oj9 ho
     have e0:a'.eval (.tmp 12)= .pointer (some ⟨b1,1,none⟩):=is_tq (hin 6 12 (by kernel_rfl) (by kernel_rfl)) rfl
     exact o_load3 (.tmp 12) rfl _ _ e0 (fits_cell (((unhide M).step hk2).at 0 _ rfl) 1 _ rfl) (tE rfl)
   | 8,ho,hsk=>
     obtain rfl:=Oj9 ho
     exact o_fld43_1 (.tmp 3) rfl b2 (0) (1) rfl ((hout 3 (by kernel_rfl)).trans rfl) (tE rfl)
   | 9,ho,hsk=>
     obtain rfl:=Oj9 ho
     have e0:a'.eval (.tmp 14)= .pointer (some ⟨b2,1,none⟩):=is_tq (hin 8 14 (by kernel_rfl) (by kernel_rfl)) rfl
     exact o_load3 (.tmp 14) rfl _ _ e0 (fits_cell (((unhide M).step hk2).at 1 _ rfl) 1 _ rfl) (tE rfl)
   | 10,ho,hsk=>
     obtain rfl:=Oj9 ho
     have e0:a'.eval (.tmp 13)= .int .i64 B.ow:=is_tq (hin 7 13 (by kernel_rfl) (by kernel_rfl)) rfl
     have e1:a'.eval (.tmp 15)= .int .i64 B.ow:=is_tq (hin 9 15 (by kernel_rfl) (by kernel_rfl)) rfl
     exact c_neq3 (.tmp 13) (.tmp 15) rfl _ _ (true) (decide_eq_true rfl) e0 e1 (tE rfl)
   | 11,ho,hsk=>
     obtain rfl:=Oj9 ho
     have e0:a'.eval (.tmp 11)= .bool false:=is_tq (hin 5 11 (by kernel_rfl) (by kernel_rfl)) rfl
     have e1:a'.eval (.tmp 16)= .bool false:=is_tq (hin 10 16 (by kernel_rfl) (by kernel_rfl)) rfl
     exact o_pickOr0 (.tmp 11) (.tmp 16) rfl _ e0 e1 (tE rfl)
   | 12,ho,hsk=>
     obtain rfl:=Oj9 ho
     have e0:a'.eval (.tmp 17)= .bool false:=is_tq (hin 11 17 (by kernel_rfl) (by kernel_rfl)) rfl
     exact wp_move (.tmp 17) rfl _ e0 (tE rfl)
   | 13,ho,hsk=>
     obtain rfl:=Oj9 ho
     exact o_fld43_2 (.tmp 2) rfl b1 (0) (2) rfl ((hout 2 (by kernel_rfl)).trans rfl) (tE rfl)
   | 14,ho,hsk=>
     obtain rfl:=Oj9 ho
     have e0:a'.eval (.tmp 19)= .pointer (some ⟨b1,2,none⟩):=is_tq (hin 13 19 (by kernel_rfl) (by kernel_rfl)) rfl
     exact o_load36 (.tmp 19) rfl _ _ e0 (fits_cell (((unhide M).step hk2).at 0 _ rfl) 2 _ rfl) (tE rfl)
   | 15,ho,hsk=>
     obtain rfl:=Oj9 ho
     exact o_fld43_2 (.tmp 3) rfl b2 (0) (2) rfl ((hout 3 (by kernel_rfl)).trans rfl) (tE rfl)
   | 16,ho,hsk=>
     obtain rfl:=Oj9 ho
     have e0:a'.eval (.tmp 21)= .pointer (some ⟨b2,2,none⟩):=is_tq (hin 15 21 (by kernel_rfl) (by kernel_rfl)) rfl
     exact o_load36 (.tmp 21) rfl _ _ e0 (fits_cell (((unhide M).step hk2).at 1 _ rfl) 2 _ rfl) (tE rfl)
   | 17,ho,hsk=>
     obtain rfl:=Oj9 ho
     have e0:a'.eval (.tmp 20)= .slice x B.sh.length cx:=is_tq (hin 14 20 (by kernel_rfl) (by kernel_rfl)) rfl
     have e1:a'.eval (.tmp 22)= .slice x1 B.sh.length cx1:=is_tq (hin 16 22 (by kernel_rfl) (by kernel_rfl)) rfl
     refine wp_callF 39 _ _ rfl #[.slice x B.sh.length cx,.slice x1 B.sh.length cx1] (by simp [e0,e1]) (cg39 _ _) ((ints39 _ _ _ _ ((unhide H1).kept ((unhide M).kept.trans hk2)).sh ((unhide H2).kept ((unhide M).kept.trans hk2)).sh (by omega)).mono ?_)
     rintro e w3 ⟨rfl,hk3⟩
     exact⟨_,rfl,_,rfl,tq_is _ _ _ _ rfl,hk3,fun _ _ _ _ _=>trivial⟩
   | 18,ho,hsk=>
     obtain rfl:=Oj9 ho
     have e0:a'.eval (.tmp 23)= .bool true:=is_tq (hin 17 23 (by kernel_rfl) (by kernel_rfl)) rfl
     exact o_not (.tmp 23) rfl (true) e0 (tE rfl)
   | 19,ho,hsk=>
     obtain rfl:=Oj9 ho
     have e0:a'.eval (.tmp 18)= .bool false:=is_tq (hin 12 18 (by kernel_rfl) (by kernel_rfl)) rfl
     have e1:a'.eval (.tmp 24)= .bool false:=is_tq (hin 18 24 (by kernel_rfl) (by kernel_rfl)) rfl
     exact o_pickOr0 (.tmp 18) (.tmp 24) rfl _ e0 e1 (tE rfl)
   | 20,ho,hsk=>
     obtain rfl:=Oj9 ho
     have e0:a'.eval (.tmp 25)= .bool false:=is_tq (hin 19 25 (by kernel_rfl) (by kernel_rfl)) rfl
     exact wp_move (.tmp 25) rfl _ e0 (tE rfl)
   | 21,ho,hsk=>
     obtain rfl:=Oj9 ho
     exact o_fld43_3 (.tmp 2) rfl b1 (0) (3) rfl ((hout 2 (by kernel_rfl)).trans rfl) (tE rfl)
   | 22,ho,hsk=>
     obtain rfl:=Oj9 ho
     have e0:a'.eval (.tmp 27)= .pointer (some ⟨b1,3,none⟩):=is_tq (hin 21 27 (by kernel_rfl) (by kernel_rfl)) rfl
     exact o_load36 (.tmp 27) rfl _ _ e0 (fits_cell (((unhide M).step hk2).at 0 _ rfl) 3 _ rfl) (tE rfl)
   | 23,ho,hsk=>
     obtain rfl:=Oj9 ho
     exact o_fld43_3 (.tmp 3) rfl b2 (0) (3) rfl ((hout 3 (by kernel_rfl)).trans rfl) (tE rfl)
   | 24,ho,hsk=>
     obtain rfl:=Oj9 ho
     have e0:a'.eval (.tmp 29)= .pointer (some ⟨b2,3,none⟩):=is_tq (hin 23 29 (by kernel_rfl) (by kernel_rfl)) rfl
     exact o_load36 (.tmp 29) rfl _ _ e0 (fits_cell (((unhide M).step hk2).at 1 _ rfl) 3 _ rfl) (tE rfl)
   | 25,ho,hsk=>
     obtain rfl:=Oj9 ho
     have e0:a'.eval (.tmp 28)= .slice y B.pa.length cy:=is_tq (hin 22 28 (by kernel_rfl) (by kernel_rfl)) rfl
     have e1:a'.eval (.tmp 30)= .slice y1 B.pa.length cy1:=is_tq (hin 24 30 (by kernel_rfl) (by kernel_rfl)) rfl
     refine wp_callF 39 _ _ rfl #[.slice y B.pa.length cy,.slice y1 B.pa.length cy1] (by simp [e0,e1]) (cg39 _ _) ((ints39 _ _ _ _ ((unhide H1).kept ((unhide M).kept.trans hk2)).pa ((unhide H2).kept ((unhide M).kept.trans hk2)).pa (by omega)).mono ?_)
     rintro e w3 ⟨rfl,hk3⟩
     exact⟨_,rfl,_,rfl,tq_is _ _ _ _ rfl,hk3,fun _ _ _ _ _=>trivial⟩
   | 26,ho,hsk=>
     obtain rfl:=Oj9 ho
     have e0:a'.eval (.tmp 31)= .bool true:=is_tq (hin 25 31 (by kernel_rfl) (by kernel_rfl)) rfl
     exact o_not (.tmp 31) rfl (true) e0 (tE rfl)
   | 27,ho,hsk=>
     obtain rfl:=Oj9 ho
     have e0:a'.eval (.tmp 26)= .bool false:=is_tq (hin 20 26 (by kernel_rfl) (by kernel_rfl)) rfl
     have e1:a'.eval (.tmp 32)= .bool false:=is_tq (hin 26 32 (by kernel_rfl) (by kernel_rfl)) rfl
     exact o_pickOr0 (.tmp 26) (.tmp 32) rfl _ e0 e1 (tE rfl)
   | 28,ho,hsk=>
     obtain rfl:=Oj9 ho
     have e0:a'.eval (.tmp 33)= .bool false:=is_tq (hin 27 33 (by kernel_rfl) (by kernel_rfl)) rfl
     exact wp_move (.tmp 33) rfl _ e0 (tE rfl)
   | 29,ho,hsk=>
     obtain rfl:=Oj9 ho
     exact o_fld43_4 (.tmp 2) rfl b1 (0) (4) rfl ((hout 2 (by kernel_rfl)).trans rfl) (tE rfl)
   | 30,ho,hsk=>
     obtain rfl:=Oj9 ho
     have e0:a'.eval (.tmp 35)= .pointer (some ⟨b1,4,none⟩):=is_tq (hin 29 35 (by kernel_rfl) (by kernel_rfl)) rfl
     exact wp_loadA row37 (.tmp 35) rfl b1 (4) e0 (i8 B.ops) rfl ((show Blk _ b1 43 (B.C (.slice x B.sh.length cx) (.slice y B.pa.length cy) (.slice z B.ln.length cz)) from(((unhide M).step hk2).at 0 _ rfl)).boOps) (tE rfl)
   | 31,ho,hsk=>
     obtain rfl:=Oj9 ho
     exact o_fld43_4 (.tmp 3) rfl b2 (0) (4) rfl ((hout 3 (by kernel_rfl)).trans rfl) (tE rfl)
   | 32,ho,hsk=>
     obtain rfl:=Oj9 ho
     have e0:a'.eval (.tmp 37)= .pointer (some ⟨b2,4,none⟩):=is_tq (hin 31 37 (by kernel_rfl) (by kernel_rfl)) rfl
     exact wp_loadA row37 (.tmp 37) rfl b2 (4) e0 (i8 B.ops) rfl ((show Blk _ b2 43 (B.C (.slice x1 B.sh.length cx1) (.slice y1 B.pa.length cy1) (.slice z1 B.ln.length cz1)) from(((unhide M).step hk2).at 1 _ rfl)).boOps) (tE rfl)
   | 33,ho,hsk=>
     obtain rfl:=Oj9 ho
     have e0:a'.eval (.tmp 36)=aggV (i8 B.ops):=is_tq (hin 30 36 (by kernel_rfl) (by kernel_rfl)) rfl
     have e1:a'.eval (.tmp 38)=aggV (i8 B.ops):=is_tq (hin 32 38 (by kernel_rfl) (by kernel_rfl)) rfl
     exact o_neqA 37 37 guard37 (.tmp 36) (.tmp 38) rfl (i8 B.ops) (i8 B.ops) e0 e1 true ((eqA37 _ _ _).trans (by rw [like_self])) (tE rfl)
   | 34,ho,hsk=>
     obtain rfl:=Oj9 ho
     have e0:a'.eval (.tmp 34)= .bool false:=is_tq (hin 28 34 (by kernel_rfl) (by kernel_rfl)) rfl
     have e1:a'.eval (.tmp 39)= .bool false:=is_tq (hin 33 39 (by kernel_rfl) (by kernel_rfl)) rfl
     exact o_pickOr0 (.tmp 34) (.tmp 39) rfl _ e0 e1 (tE rfl)
   | 35,ho,hsk=>
     obtain rfl:=Oj9 ho
     have e0:a'.eval (.tmp 40)= .bool false:=is_tq (hin 34 40 (by kernel_rfl) (by kernel_rfl)) rfl
     exact wp_move (.tmp 40) rfl _ e0 (tE rfl)
   | 36,ho,hsk=>
     obtain rfl:=Oj9 ho
     exact o_fld43_5 (.tmp 2) rfl b1 (0) (12) rfl ((hout 2 (by kernel_rfl)).trans rfl) (tE rfl)
   | 37,ho,hsk=>
     obtain rfl:=Oj9 ho
     have e0:a'.eval (.tmp 42)= .pointer (some ⟨b1,12,none⟩):=is_tq (hin 36 42 (by kernel_rfl) (by kernel_rfl)) rfl
     exact o_load38 (.tmp 42) rfl _ _ e0 (fits_cell (((unhide M).step hk2).at 0 _ rfl) 12 _ rfl) (tE rfl)
   | 38,ho,hsk=>
     obtain rfl:=Oj9 ho
     have e0:a'.eval (.tmp 43)= .slice z B.ln.length cz:=is_tq (hin 37 43 (by kernel_rfl) (by kernel_rfl)) rfl
     exact o_len38 (.tmp 43) rfl _ _ _ e0 (((unhide H1).kept ((unhide M).kept.trans hk2)).ln) (tE rfl)
   | 39,ho,hsk=>
     obtain rfl:=Oj9 ho
     exact o_fld43_5 (.tmp 3) rfl b2 (0) (12) rfl ((hout 3 (by kernel_rfl)).trans rfl) (tE rfl)
   | 40,ho,hsk=>
     obtain rfl:=Oj9 ho
     have e0:a'.eval (.tmp 45)= .pointer (some ⟨b2,12,none⟩):=is_tq (hin 39 45 (by kernel_rfl) (by kernel_rfl)) rfl
     exact o_load38 (.tmp 45) rfl _ _ e0 (fits_cell (((unhide M).step hk2).at 1 _ rfl) 12 _ rfl) (tE rfl)
   | 41,ho,hsk=>
     obtain rfl:=Oj9 ho
     have e0:a'.eval (.tmp 46)= .slice z1 B.ln.length cz1:=is_tq (hin 40 46 (by kernel_rfl) (by kernel_rfl)) rfl
     exact o_len38 (.tmp 46) rfl _ _ _ e0 (((unhide H2).kept ((unhide M).kept.trans hk2)).ln) (tE rfl)
   | 42,ho,hsk=>
     obtain rfl:=Oj9 ho
     have e0:a'.eval (.tmp 44)= .int .i64 B.ln.length:=is_tq (hin 38 44 (by kernel_rfl) (by kernel_rfl)) rfl
     have e1:a'.eval (.tmp 47)= .int .i64 B.ln.length:=is_tq (hin 41 47 (by kernel_rfl) (by kernel_rfl)) rfl
     exact c_neq3 (.tmp 44) (.tmp 47) rfl _ _ (true) (decide_eq_true rfl) e0 e1 (tE rfl)
   | 43,ho,hsk=>
     obtain rfl:=Oj9 ho
     have e0:a'.eval (.tmp 41)= .bool false:=is_tq (hin 35 41 (by kernel_rfl) (by kernel_rfl)) rfl
     have e1:a'.eval (.tmp 48)= .bool false:=is_tq (hin 42 48 (by kernel_rfl) (by kernel_rfl)) rfl
     exact o_pickOr0 (.tmp 41) (.tmp 48) rfl _ e0 e1 (tE rfl)
   | 44,ho,hsk=>
     obtain rfl:=Oj9 ho
     have e0:a'.eval (.tmp 49)= .bool false:=is_tq (hin 43 49 (by kernel_rfl) (by kernel_rfl)) rfl
     exact wp_move (.tmp 49) rfl _ e0 (tE rfl)
   | 45,ho,hsk=>
     obtain rfl:=Oj9 ho
     exact o_fld43_6 (.tmp 2) rfl b1 (0) (13) rfl ((hout 2 (by kernel_rfl)).trans rfl) (tE rfl)
   | 46,ho,hsk=>
     obtain rfl:=Oj9 ho
     have e0:a'.eval (.tmp 51)= .pointer (some ⟨b1,13,none⟩):=is_tq (hin 45 51 (by kernel_rfl) (by kernel_rfl)) rfl
     exact wp_loadA row41 (.tmp 51) rfl b1 (13) e0 (Wi.C ⟨B.hn,B.hk⟩) rfl ((show Blk _ b1 43 (B.C (.slice x B.sh.length cx) (.slice y B.pa.length cy) (.slice z B.ln.length cz)) from(((unhide M).step hk2).at 0 _ rfl)).boHand) (tE rfl)
   | 47,ho,hsk=>
     obtain rfl:=Oj9 ho
     exact o_fld43_6 (.tmp 3) rfl b2 (0) (13) rfl ((hout 3 (by kernel_rfl)).trans rfl) (tE rfl)
   | 48,ho,hsk=>
     obtain rfl:=Oj9 ho
     have e0:a'.eval (.tmp 53)= .pointer (some ⟨b2,13,none⟩):=is_tq (hin 47 53 (by kernel_rfl) (by kernel_rfl)) rfl
     exact wp_loadA row41 (.tmp 53) rfl b2 (13) e0 (Wi.C ⟨B.hn,B.hk⟩) rfl ((show Blk _ b2 43 (B.C (.slice x1 B.sh.length cx1) (.slice y1 B.pa.length cy1) (.slice z1 B.ln.length cz1)) from(((unhide M).step hk2).at 1 _ rfl)).boHand) (tE rfl)
   | 49,ho,hsk=>
     obtain rfl:=Oj9 ho
     have e0:a'.eval (.tmp 52)=aggV (Wi.C ⟨B.hn,B.hk⟩):=is_tq (hin 46 52 (by kernel_rfl) (by kernel_rfl)) rfl
     have e1:a'.eval (.tmp 54)=aggV (Wi.C ⟨B.hn,B.hk⟩):=is_tq (hin 48 54 (by kernel_rfl) (by kernel_rfl)) rfl
     exact o_neqA 41 41 guard41 (.tmp 52) (.tmp 54) rfl (Wi.C ⟨B.hn,B.hk⟩) (Wi.C ⟨B.hn,B.hk⟩) e0 e1 true ((eqW41 _ _ _).trans (by simp)) (tE rfl)
   | 50,ho,hsk=>
     obtain rfl:=Oj9 ho
     have e0:a'.eval (.tmp 50)= .bool false:=is_tq (hin 44 50 (by kernel_rfl) (by kernel_rfl)) rfl
     have e1:a'.eval (.tmp 55)= .bool false:=is_tq (hin 49 55 (by kernel_rfl) (by kernel_rfl)) rfl
     exact o_pickOr0 (.tmp 50) (.tmp 55) rfl _ e0 e1 (tE rfl)
   | 51,ho,hsk=>
     obtain rfl:=Oj9 ho
     have e0:a'.eval (.tmp 56)= .bool false:=is_tq (hin 50 56 (by kernel_rfl) (by kernel_rfl)) rfl
     exact wp_move (.tmp 56) rfl _ e0 (tE rfl)
   | 52,ho,hsk=>
     obtain rfl:=Oj9 ho
     exact o_fld43_7 (.tmp 2) rfl b1 (0) (15) rfl ((hout 2 (by kernel_rfl)).trans rfl) (tE rfl)
   | 53,ho,hsk=>
     obtain rfl:=Oj9 ho
     have e0:a'.eval (.tmp 58)= .pointer (some ⟨b1,15,none⟩):=is_tq (hin 52 58 (by kernel_rfl) (by kernel_rfl)) rfl
     exact o_load4 (.tmp 58) rfl _ _ e0 (fits_cell (((unhide M).step hk2).at 0 _ rfl) 15 _ rfl) (tE rfl)
   | 54,ho,hsk=>
     obtain rfl:=Oj9 ho
     exact o_fld43_7 (.tmp 3) rfl b2 (0) (15) rfl ((hout 3 (by kernel_rfl)).trans rfl) (tE rfl)
   | 55,ho,hsk=>
     obtain rfl:=Oj9 ho
     have e0:a'.eval (.tmp 60)= .pointer (some ⟨b2,15,none⟩):=is_tq (hin 54 60 (by kernel_rfl) (by kernel_rfl)) rfl
     exact o_load4 (.tmp 60) rfl _ _ e0 (fits_cell (((unhide M).step hk2).at 1 _ rfl) 15 _ rfl) (tE rfl)
   | 56,ho,hsk=>
     obtain rfl:=Oj9 ho
     have e0:a'.eval (.tmp 59)= .bool B.bz:=is_tq (hin 53 59 (by kernel_rfl) (by kernel_rfl)) rfl
     have e1:a'.eval (.tmp 61)= .bool B.bz:=is_tq (hin 55 61 (by kernel_rfl) (by kernel_rfl)) rfl
     exact c_neq4 (.tmp 59) (.tmp 61) rfl B.bz e0 e1 (tE rfl)
   | 57,ho,hsk=>
     obtain rfl:=Oj9 ho
     have e0:a'.eval (.tmp 57)= .bool false:=is_tq (hin 51 57 (by kernel_rfl) (by kernel_rfl)) rfl
     have e1:a'.eval (.tmp 62)= .bool false:=is_tq (hin 56 62 (by kernel_rfl) (by kernel_rfl)) rfl
     exact o_pickOr0 (.tmp 57) (.tmp 62) rfl _ e0 e1 (tE rfl)
   | 58,ho,hsk=>
     obtain rfl:=Oj9 ho
     have e0:a'.eval (.tmp 63)= .bool false:=is_tq (hin 57 63 (by kernel_rfl) (by kernel_rfl)) rfl
     exact wp_move (.tmp 63) rfl _ e0 (tE rfl)
   | 59,ho,hsk=>
     obtain rfl:=Oj9 ho
     exact o_fld43_8 (.tmp 2) rfl b1 (0) (16) rfl ((hout 2 (by kernel_rfl)).trans rfl) (tE rfl)
   | 60,ho,hsk=>
     obtain rfl:=Oj9 ho
     have e0:a'.eval (.tmp 65)= .pointer (some ⟨b1,16,none⟩):=is_tq (hin 59 65 (by kernel_rfl) (by kernel_rfl)) rfl
     exact o_load2 (.tmp 65) rfl _ _ e0 (fits_cell (((unhide M).step hk2).at 0 _ rfl) 16 _ rfl) (tE rfl)
   | 61,ho,hsk=>
     obtain rfl:=Oj9 ho
     exact o_fld43_8 (.tmp 3) rfl b2 (0) (16) rfl ((hout 3 (by kernel_rfl)).trans rfl) (tE rfl)
   | 62,ho,hsk=>
     obtain rfl:=Oj9 ho
     have e0:a'.eval (.tmp 67)= .pointer (some ⟨b2,16,none⟩):=is_tq (hin 61 67 (by kernel_rfl) (by kernel_rfl)) rfl
     exact o_load2 (.tmp 67) rfl _ _ e0 (fits_cell (((unhide M).step hk2).at 1 _ rfl) 16 _ rfl) (tE rfl)
   | 63,ho,hsk=>
     obtain rfl:=Oj9 ho
     have e0:a'.eval (.tmp 66)= .int .i64 B.op:=is_tq (hin 60 66 (by kernel_rfl) (by kernel_rfl)) rfl
     have e1:a'.eval (.tmp 68)= .int .i64 B.op:=is_tq (hin 62 68 (by kernel_rfl) (by kernel_rfl)) rfl
     exact c_neq2 (.tmp 66) (.tmp 68) rfl _ _ (true) (decide_eq_true rfl) e0 e1 (tE rfl)
   | 64,ho,hsk=>
     obtain rfl:=Oj9 ho
     have e0:a'.eval (.tmp 64)= .bool false:=is_tq (hin 58 64 (by kernel_rfl) (by kernel_rfl)) rfl
     have e1:a'.eval (.tmp 69)= .bool false:=is_tq (hin 63 69 (by kernel_rfl) (by kernel_rfl)) rfl
     exact o_pickOr0 (.tmp 64) (.tmp 69) rfl _ e0 e1 (tE rfl)
 intro w9 hk9
 replace hk9:Kept [] W2 w9:=⟨hk9.os,hk9.tape,hk9.output,hk9.size,hk9.block⟩
 generalize hA:putAll _ _ _=A
 have E:A=⟨#[aggV (B.C (.slice x B.sh.length cx) (.slice y B.pa.length cy) (.slice z B.ln.length cz)),aggV (B.C (.slice x1 B.sh.length cx1) (.slice y1 B.pa.length cy1) (.slice z1 B.ln.length cz1)),P0 b1,P0 b2,.bool false,undef,P0 b1,.int .i64 B.ex,P0 b2,.int .i64 B.ex,.bool false,.bool false,.pointer (some ⟨b1,1,none⟩),.int .i64 B.ow,.pointer (some ⟨b2,1,none⟩),.int .i64 B.ow,.bool false,.bool false,.bool false,.pointer (some ⟨b1,2,none⟩),.slice x B.sh.length cx,.pointer (some ⟨b2,2,none⟩),.slice x1 B.sh.length cx1,.bool true,.bool false,.bool false,.bool false,.pointer (some ⟨b1,3,none⟩),.slice y B.pa.length cy,.pointer (some ⟨b2,3,none⟩),.slice y1 B.pa.length cy1,.bool true,.bool false,.bool false,.bool false,.pointer (some ⟨b1,4,none⟩),aggV (i8 B.ops),.pointer (some ⟨b2,4,none⟩),aggV (i8 B.ops),.bool false,.bool false,.bool false,.pointer (some ⟨b1,12,none⟩),.slice z B.ln.length cz,.int .i64 B.ln.length,.pointer (some ⟨b2,12,none⟩),.slice z1 B.ln.length cz1,.int .i64 B.ln.length,.bool false,.bool false,.bool false,.pointer (some ⟨b1,13,none⟩),aggV (Wi.C ⟨B.hn,B.hk⟩),.pointer (some ⟨b2,13,none⟩),aggV (Wi.C ⟨B.hn,B.hk⟩),.bool false,.bool false,.bool false,.pointer (some ⟨b1,15,none⟩),.bool B.bz,.pointer (some ⟨b2,15,none⟩),.bool B.bz,.bool false,.bool false,.bool false,.pointer (some ⟨b1,16,none⟩),.int .i64 B.op,.pointer (some ⟨b2,16,none⟩),.int .i64 B.op,.bool false,.bool false,undef,undef,undef,undef,undef,undef,undef,undef,undef,undef,undef,undef,undef,undef,undef,undef,undef,undef],[]⟩:=by rw [← hA];kernel_rfl
 subst E
 clear hA
 replace M:=hide ((unhide M).step hk9)
 clear hk9
 go_wp2_with fail
 go_loopw [5] (fun i wr=>∃j:Nat,j≤B.ln.length∧i= .int .i64 j∧Hid (Mm [] w wr [(b1,43,B.C (.slice x B.sh.length cx) (.slice y B.pa.length cy) (.slice z B.ln.length cz)),(b2,43,B.C (.slice x1 B.sh.length cx1) (.slice y1 B.pa.length cy1) (.slice z1 B.ln.length cz1))])) (fun i _=>B.ln.length-(intOf i).toNat)
 case atStart=>exact ⟨0,by omega,rfl,M⟩
 case round=>
   obtain⟨j,hj,rfl,MR⟩:=hrel
   clear M
   have c12:=fits_cell ((unhide MR).at 0 _ rfl) 12 _ rfl
   replace c12:wr.cell? ⟨b1,12,none⟩=some (.slice z B.ln.length cz):=c12
   by_cases hlt:j<B.ln.length
   · have hjI:(j:Int)<B.ln.length:=by omega
     have hd:decide ((j:Int)<B.ln.length)=true:=by simpa using hjI
     obtain⟨x9,hx⟩:∃x,B.ln[j]?=some x:=⟨_,List.getElem?_eq_getElem hlt⟩
     obtain⟨g,off,c',e,hr⟩:=Ws.get ((unhide H1).kept (unhide MR).kept).ln hx
     cases e
     obtain⟨q,oq,d',e,hq⟩:=Ws.get ((unhide H2).kept (unhide MR).kept).ln hx
     cases e
     clear hx
     go_wp2_with fail
     clear c12
     refine wp_region_any mixed (wpAny_tq 11 rfl (by kernel_rfl) [some (.pointer (some ⟨b1,12,none⟩)),some (.slice (some ⟨g,off,none⟩) B.ln.length cz),some (.int .i64 j),some (.pointer (some ⟨g,off+j*2,none⟩)),some (aggV x9.C),some (.pointer (some ⟨b2,12,none⟩)),some (.slice (some ⟨q,oq,none⟩) B.ln.length cz1),some (.int .i64 j),some (.pointer (some ⟨q,oq+j*2,none⟩)),some (aggV x9.C),some (.bool false)] rfl (by kernel_rfl) (by kernel_rfl) ?_ ?_)
     · intro i o' hi hsk ho a' w2 hout hin hk2
       replace hk2:Kept [] wr w2:=⟨hk2.os,hk2.tape,hk2.output,hk2.size,hk2.block⟩
       match i,ho,hsk with
       | 0,ho,hsk=>
         obtain rfl:=Oj9 ho
         exact o_fld43_5 (.tmp 2) rfl b1 (0) (12) rfl ((hout 2 (by kernel_rfl)).trans rfl) (tE rfl)
       | 1,ho,hsk=>
         obtain rfl:=Oj9 ho
         have e0:a'.eval (.tmp 78)= .pointer (some ⟨b1,12,none⟩):=is_tq (hin 0 78 (by kernel_rfl) (by kernel_rfl)) rfl
         exact o_load38 (.tmp 78) rfl _ _ e0 (fits_cell (((unhide MR).step hk2).at 0 _ rfl) 12 _ rfl) (tE rfl)
       | 2,ho,hsk=>
         obtain rfl:=Oj9 ho
         exact wp_move (.tmp 5) rfl _ ((hout 5 (by kernel_rfl)).trans rfl) (tE rfl)
       | 3,ho,hsk=>
         obtain rfl:=Oj9 ho
         have e0:a'.eval (.tmp 79)= .slice (some ⟨g,off,none⟩) B.ln.length cz:=is_tq (hin 1 79 (by kernel_rfl) (by kernel_rfl)) rfl
         have e1:a'.eval (.tmp 80)= .int .i64 j:=is_tq (hin 2 80 (by kernel_rfl) (by kernel_rfl)) rfl
         exact o_idx38n (.tmp 79) (.tmp 80) rfl g off B.ln.length cz j hlt e0 e1 (tE rfl)
       | 4,ho,hsk=>
         obtain rfl:=Oj9 ho
         have e0:a'.eval (.tmp 81)= .pointer (some ⟨g,off+j*2,none⟩):=is_tq (hin 3 81 (by kernel_rfl) (by kernel_rfl)) rfl
         exact wp_loadA row41 (.tmp 81) rfl g (off+j*2) e0 (x9.C) rfl (fun k u hu=>hk2.cell (hr k u hu) (by simp)) (tE rfl)
       | 5,ho,hsk=>
         obtain rfl:=Oj9 ho
         exact o_fld43_5 (.tmp 3) rfl b2 (0) (12) rfl ((hout 3 (by kernel_rfl)).trans rfl) (tE rfl)
       | 6,ho,hsk=>
         obtain rfl:=Oj9 ho
         have e0:a'.eval (.tmp 83)= .pointer (some ⟨b2,12,none⟩):=is_tq (hin 5 83 (by kernel_rfl) (by kernel_rfl)) rfl
         exact o_load38 (.tmp 83) rfl _ _ e0 (fits_cell (((unhide MR).step hk2).at 1 _ rfl) 12 _ rfl) (tE rfl)
       | 7,ho,hsk=>
         obtain rfl:=Oj9 ho
         exact wp_move (.tmp 5) rfl _ ((hout 5 (by kernel_rfl)).trans rfl) (tE rfl)
       | 8,ho,hsk=>
         obtain rfl:=Oj9 ho
         have e0:a'.eval (.tmp 84)= .slice (some ⟨q,oq,none⟩) B.ln.length cz1:=is_tq (hin 6 84 (by kernel_rfl) (by kernel_rfl)) rfl
         have e1:a'.eval (.tmp 85)= .int .i64 j:=is_tq (hin 7 85 (by kernel_rfl) (by kernel_rfl)) rfl
         exact o_idx38n (.tmp 84) (.tmp 85) rfl q oq B.ln.length cz1 j hlt e0 e1 (tE rfl)
       | 9,ho,hsk=>
         obtain rfl:=Oj9 ho
         have e0:a'.eval (.tmp 86)= .pointer (some ⟨q,oq+j*2,none⟩):=is_tq (hin 8 86 (by kernel_rfl) (by kernel_rfl)) rfl
         exact wp_loadA row41 (.tmp 86) rfl q (oq+j*2) e0 (x9.C) rfl (fun k u hu=>hk2.cell (hq k u hu) (by simp)) (tE rfl)
       | 10,ho,hsk=>
         obtain rfl:=Oj9 ho
         have e0:a'.eval (.tmp 82)=aggV x9.C:=is_tq (hin 4 82 (by kernel_rfl) (by kernel_rfl)) rfl
         have e1:a'.eval (.tmp 87)=aggV x9.C:=is_tq (hin 9 87 (by kernel_rfl) (by kernel_rfl)) rfl
         exact o_neqA 41 41 guard41 (.tmp 82) (.tmp 87) rfl (x9.C) (x9.C) e0 e1 true ((eqW41 _ _ _).trans (by simp)) (tE rfl)
     intro w9 hk9
     replace hk9:Kept [] wr w9:=⟨hk9.os,hk9.tape,hk9.output,hk9.size,hk9.block⟩
     simp only [valsQ,List.map_cons,List.map_nil,Option.getD_some,List.take_succ_cons,List.take_zero,putAll,Act.put,List.setIfInBounds_toArray,List.set_cons_succ,List.set_cons_zero]
     refine wpAny_done (by kernel_rfl) ?_ _
     go_wp2_with fail
     go_roundw
     case rel=>exact ⟨j+1,by omega,by go_num,hide ((unhide MR).step hk9)⟩
     case measure=>simp [intOf];omega
   · have hd:decide ((j:Int)<B.ln.length)=false:=by simp;omega
     go_wp2_with fail
     go_ret
     exact⟨rfl,(unhide MR).kept⟩
end Go.Proofs.Ytabicgbnloabnaa
