import Derived.Test.YtbigongmlpoahaaUFj
namespace Go.Proofs.Ytbigongmlpoahaa
set_option maxHeartbeats 2000000
set_option maxRecDepth 100000
set_option linter.unusedSimpArgs false
open Go.RowKit
section
variable {o:Oper} {a:Act} {w:World} {K:Act→World→Prop} {Q:Exit→Act→World→Prop}
theorem o_idx38n (x y:Operand) (ho:o.op= .indexAddr 35 x y) (g off n c j:Nat) (hj:j<n) (hx:a.eval x= .slice (some ⟨g,off,none⟩) n c) (hy:a.eval y= .int .i64 j) (h:K (a.put o.dst (.pointer (some ⟨g,off+j*2,none⟩))) w):o.wp Try.prog a w K Q:=by
 have hjI:(j:Int)<n:=by omega
 unfold Oper.wp execOp
 simp only [ho,hx,hy]
 simp [go_sem,hj,hjI]
 exact h
end
theorem index73 (L:List Wi) (x:Wi) (v:Value) (w:World) (h:Ws w v L) (hL:L.length≤1000):Calls Try.prog 97 #[v,aggV x.C] w fun e w'=>∃i:Int,e= .returned (.int .i64 i)∧(0≤i↔x∈L)∧Kept [] w w':=by
 obtain⟨ao,c,rfl,hc,hno⟩:=h.sl
 have HW:=hide h
 clear h hc hno
 go_enter Try.func97,Try.ntmps97
 have M:Hid (Mm [] w w []):=hide Mm.init
 go_wp2_with (first |(refine wpBoxV rfl (.tmp 1) rfl x.C rfl ?_;intro W1 b1 e1 B1 K1;have HB1:=hide B1;replace M:=hide ((unhide M).new e1 B1 K1);clear e1 B1 K1;refine Stp.go ?_))
 constructor
 go_wp2_with fail
 have HK:=hide (unhide M).kept
 clear M
 go_loopw [8] (fun i wr=>∃j:Nat,j≤L.length∧i= .int .i64 j∧Hid (∀k,k<j→L[k]?≠some x)∧Hid (Blk wr b1 38 x.C)∧Hid (Kept [] w wr)) (fun i _=>L.length-(intOf i).toNat)
 case atStart=>exact ⟨0,by omega,rfl,fun k hk=>by omega,HB1,HK⟩
 case round=>
   clear HK HB1
   obtain⟨j,hj,rfl,HN,HMb,HK⟩:=hrel
   by_cases hlt:j<L.length
   · have hjI:(j:Int)<L.length:=by omega
     have hd:decide ((j:Int)<L.length)=true:=by simpa using hjI
     obtain⟨y,hy⟩:∃y,L[j]?=some y:=⟨_,List.getElem?_eq_getElem hlt⟩
     obtain⟨g,off,c',e,hr⟩:=Ws.get ((unhide HW).kept (unhide HK) (by simp)) hy
     cases e
     have HRr:∀ {W:World},Kept [] wr W→W.rangeAt g (off+j*2) y.C:=fun hk k u hu=>hk.cell (hr k u hu) (by simp)
     have HY:=hide hy
     clear hy
     by_cases hq:x=y
     · have HEQ:Hid (decide (x=y)=true):=by simpa [Hid] using hq
       have HX:Hid (x∈L):=by show _∈_;rw [hq];exact List.mem_of_getElem? (unhide HY)
       clear hq
       go_wp2_with fail
       refine wp_region_any mixed (wpAny_tq 6 rfl (by kernel_rfl) [some (aggV x.C),some (.slice (some ⟨g,off,none⟩) L.length c),some (.int .i64 j),some (.pointer (some ⟨g,off+j*2,none⟩)),some (aggV y.C),some (.bool true)] rfl (by kernel_rfl) (by kernel_rfl) ?_ ?_)
       · intro i o' hi hsk ho a' w2 hout hin hk2
         replace hk2:Kept [] wr w2:=ud hk2
         match i,ho,hsk with
         | 0,ho,hsk=>
           cases ho
           exact wp_loadA row41 (.tmp 3) rfl b1 (0) ((ho9 hout 3).trans rfl) (x.C) rfl (((unhide HMb).kept hk2 (by simp)).range) (tE rfl)
         | 1,ho,hsk=>
           cases ho
           exact wp_move (.tmp 0) rfl _ ((ho9 hout 0).trans rfl) (tE rfl)
         | 2,ho,hsk=>
           cases ho
           exact wp_move (.tmp 5) rfl _ ((ho9 hout 5).trans rfl) (tE rfl)
         | 3,ho,hsk=>
           cases ho
           exact o_idx38n (.tmp 12) (.tmp 13) rfl g off L.length c j hlt (is_tq (hi9 hin 1 12) rfl) (is_tq (hi9 hin 2 13) rfl) (tE rfl)
         | 4,ho,hsk=>
           cases ho
           exact wp_loadA row41 (.tmp 14) rfl g (off+j*2) (is_tq (hi9 hin 3 14) rfl) (y.C) rfl (HRr hk2) (tE rfl)
         | 5,ho,hsk=>
           cases ho
           exact o_eqlA 38 38 guard41 (.tmp 11) (.tmp 15) rfl (x.C) (y.C) (is_tq (hi9 hin 0 11) rfl) (is_tq (hi9 hin 4 15) rfl) true ((eqW41 _ _ _).trans (by rw [unhide HEQ])) (tE rfl)
       intro w9 hk9
       replace hk9:Kept [] wr w9:=ud hk9
       simp only [valsQ,List.map_cons,List.map_nil,Option.getD_some,List.take_succ_cons,List.take_zero,putAll,Act.put,List.setIfInBounds_toArray,List.set_cons_succ,List.set_cons_zero]
       refine wpAny_done (by kernel_rfl) ?_ _
       go_wp2_with fail
       go_ret
       exact⟨j,rfl,⟨fun _=>unhide HX,fun _=>by omega⟩,(unhide HK).trans hk9⟩
     · have HEQ:Hid (decide (x=y)=false):=by simpa [Hid] using hq
       have HN2:Hid (∀k,k<j+1→L[k]?≠some x):=by
         intro k hk
         by_cases hkj:k=j
         · subst hkj;rw [unhide HY];intro e;cases e;exact hq rfl
         · exact unhide HN k (by omega)
       clear hq
       go_wp2_with fail
       refine wp_region_any mixed (wpAny_tq 6 rfl (by kernel_rfl) [some (aggV x.C),some (.slice (some ⟨g,off,none⟩) L.length c),some (.int .i64 j),some (.pointer (some ⟨g,off+j*2,none⟩)),some (aggV y.C),some (.bool false)] rfl (by kernel_rfl) (by kernel_rfl) ?_ ?_)
       · intro i o' hi hsk ho a' w2 hout hin hk2
         replace hk2:Kept [] wr w2:=ud hk2
         match i,ho,hsk with
         | 0,ho,hsk=>
           cases ho
           exact wp_loadA row41 (.tmp 3) rfl b1 (0) ((ho9 hout 3).trans rfl) (x.C) rfl (((unhide HMb).kept hk2 (by simp)).range) (tE rfl)
         | 1,ho,hsk=>
           cases ho
           exact wp_move (.tmp 0) rfl _ ((ho9 hout 0).trans rfl) (tE rfl)
         | 2,ho,hsk=>
           cases ho
           exact wp_move (.tmp 5) rfl _ ((ho9 hout 5).trans rfl) (tE rfl)
         | 3,ho,hsk=>
           cases ho
           exact o_idx38n (.tmp 12) (.tmp 13) rfl g off L.length c j hlt (is_tq (hi9 hin 1 12) rfl) (is_tq (hi9 hin 2 13) rfl) (tE rfl)
         | 4,ho,hsk=>
           cases ho
           exact wp_loadA row41 (.tmp 14) rfl g (off+j*2) (is_tq (hi9 hin 3 14) rfl) (y.C) rfl (HRr hk2) (tE rfl)
         | 5,ho,hsk=>
           cases ho
           exact o_eqlA 38 38 guard41 (.tmp 11) (.tmp 15) rfl (x.C) (y.C) (is_tq (hi9 hin 0 11) rfl) (is_tq (hi9 hin 4 15) rfl) false ((eqW41 _ _ _).trans (by rw [unhide HEQ])) (tE rfl)
       intro w9 hk9
       replace hk9:Kept [] wr w9:=ud hk9
       simp only [valsQ,List.map_cons,List.map_nil,Option.getD_some,List.take_succ_cons,List.take_zero,putAll,Act.put,List.setIfInBounds_toArray,List.set_cons_succ,List.set_cons_zero]
       refine wpAny_done (by kernel_rfl) ?_ _
       go_wp2_with fail
       go_roundw
       case rel=>exact ⟨j+1,by omega,by go_num,HN2,(unhide HMb).kept hk9 (by simp),(unhide HK).trans hk9⟩
       case measure=>simp [intOf];omega
   · have hd:decide ((j:Int)<L.length)=false:=by simp;omega
     go_wp2_with fail
     go_ret
     refine⟨-1,rfl,⟨fun h=>by omega,fun hx=> ?_⟩,unhide HK⟩
     obtain⟨k,hk⟩:=List.getElem?_of_mem hx
     exact absurd hk (unhide HN k (by have:=(List.getElem?_eq_some_iff.1 hk).1;omega))
theorem contains66 (L:List Wi) (x:Wi) (v:Value) (w:World) (h:Ws w v L) (hL:L.length≤1000):Calls Try.prog 92 #[v,aggV x.C] w fun e w'=>e= .returned (.bool (decide (x∈L)))∧Kept [] w w':=by
 have HW:=hide h
 clear h
 go_enter Try.func92,Try.ntmps92
 have M:Hid (Mm [] w w []):=hide Mm.init
 go_wp2_with (first |(refine wpBoxV rfl (.tmp 1) rfl x.C rfl ?_;intro W1 b1 e1 B1 K1;replace M:=hide ((unhide M).new e1 B1 K1);clear e1 B1 K1;refine Stp.go ?_))
 constructor
 go_wp2_with (first |(refine wpLoadA row41 rfl (.tmp 3) rfl b1 0 rfl x.C rfl ((unhide M).at 0 _ rfl).range ?_;refine Stp.go ?_))
 constructor
 go_wp2_with (first |(go_at_call 97;refine(index73 L x v _ ((unhide HW).kept (unhide M).kept (by simp)) hL).mono ?_;rintro e W2 ⟨i,rfl,hi,K2⟩;have HI:Hid ((0≤i)=(x∈L)):=propext hi;have HK:Hid (Kept [] w W2):=(unhide M).kept.trans K2;clear hi K2 M;refine Stp.go ?_))
 constructor
 go_wp2_with fail
 go_ret
 refine⟨?_,unhide HK⟩
 have h9:=unhide HI
 refine ret_bool ?_
 simp only [decide_eq_true_eq]
 exact Iff.of_eq h9
theorem done60 (s:Lo) (ln:Value) (b:Nat) (L:List Wi) (w:World) (h:Blk w b 108 (s.C ln)) (hs:s.Ok) (hW:Ws w ln L) (hall:∀x∈L,x.Ok) (hop:0≤s.op∧s.op+L.length≤1000000) (hL:L.length≤1000):Calls Try.prog 82 #[P0 b] w (LN b ln w (nextP s.over L)):=by
 have M:=hide (Mm.one h)
 have HB:=hide h
 have HW:=hide hW
 have HS:=hide hs
 have HA:=hide hall
 clear h hs hW hall
 go_enter Try.func82,Try.ntmps82
 go_wp2_with (first |(go_at_call 94;refine(over69 s ln b _ ((unhide M).at 0 _ rfl)).mono ?_;rintro e W1 ⟨rfl,B1,K1⟩;replace M:Hid (Mm [b] w W1 [(b,108,s.over.C ln)]):=hide ((unhide M).mut 0 rfl K1 B1);clear B1 K1;refine Stp.go ?_))
 constructor
 go_wp2_with (first |(go_at_call 86;refine(next55 s.over ln b L _ ((unhide M).at 0 _ rfl) (over_ok (unhide HS)) ((unhide HW).kept (unhide M).kept (Rw.ne (unhide HW) (unhide HB) (by decide))) (unhide HA) hop hL).mono ?_;rintro e W9 ⟨v,ln2,rfl,N9,B9,R9,K9,S9⟩;have HN:=hide N9;have HB9:=hide B9;have HR:=hide R9;have HK9:=hide K9;have HS9:=hide S9;clear N9 B9 R9 K9 S9;refine Stp.go ?_))
 constructor
 go_wp2_with fail
 go_ret
 exact⟨v,ln2,rfl,(unhide HN).elder (unhide M).kept.size,unhide HB9,unhide HR,(unhide M).kept.trans (unhide HK9),unhide HS9⟩
end Go.Proofs.Ytbigongmlpoahaa
