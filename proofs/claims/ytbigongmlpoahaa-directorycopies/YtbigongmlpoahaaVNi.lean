import Derived.Test.YtbigongmlpoahaaVFr
namespace Go.Proofs.Ytbigongmlpoahaa
set_option maxRecDepth 100000
set_option linter.unusedSimpArgs false
open Go.RowKit
def Nl (w:World) (v:Value):Prop:=v= .pointer none∨∃b,v=P0 b∧w.cell? ⟨b,0,none⟩=some (.bool false)
theorem Nl.kept {w w':World} {v:Value} (h:Nl w v) (hk:Kept [] w w'):Nl w' v:=by
 rcases h with h | ⟨b,h,hc⟩
 · exact .inl h
 · exact .inr ⟨b,h,hk.cell hc (by simp)⟩
theorem none_n (v:Value) (w:World) (h:Nl w v):Calls Try.prog 68 #[v] w fun e w'=>e= .returned (.bool true)∧w'=w:=by
 rcases h with rfl | ⟨b,rfl,c0⟩
 · go_enter Try.func68,Try.ntmps68
   go_wp2_with fail
   go_ret
   exact⟨rfl,rfl⟩
 · go_enter Try.func68,Try.ntmps68
   go_wp2_with fail
   go_ret
   exact⟨rfl,rfl⟩
end Go.Proofs.Ytbigongmlpoahaa
namespace Go.Proofs.Ytbigongmlpoahaa
set_option maxRecDepth 100000
set_option linter.unusedSimpArgs false
open Go.RowKit
theorem like_selfN {α:Type} [DecidableEq α] (f:Nat→α):like f f=true:=like_iff.2 (fun _ _=>rfl)
end Go.Proofs.Ytbigongmlpoahaa
namespace Go.Proofs.Ytbigongmlpoahaa
set_option maxRecDepth 100000
set_option linter.unusedSimpArgs false
open Go.RowKit
end Go.Proofs.Ytbigongmlpoahaa
namespace Go.Proofs.Ytbigongmlpoahaa
set_option maxRecDepth 100000
set_option linter.unusedSimpArgs false
open Go.RowKit
theorem cg57 (vs:Array Value) (w:World):(callFunc 74 vs).run Try.prog w= .ok (.enter 74 vs) w:=by kernel_rfl
end Go.Proofs.Ytbigongmlpoahaa
namespace Go.Proofs.Ytbigongmlpoahaa.D
set_option maxHeartbeats 40000000
set_option maxRecDepth 100000
set_option linter.unusedSimpArgs false
open Go.RowKit
variable {w:World}
theorem eq74 (L:List Wi) (u v:Value) (w:World) (h:Ws w u L) (k:Ws w v L) (hL:L.length≤100000):Calls Try.prog 74 #[u,v] w fun e w'=>e= .returned (.bool true)∧Kept [] w w':=by
 obtain⟨ao,c,rfl,_,_⟩:=h.sl
 obtain⟨bo,d,rfl,_,_⟩:=k.sl
 have H1:=hide h
 have H2:=hide k
 clear h k
 go_enter Try.func74,Try.ntmps74
 go_wp2_with fail
 go_loopw [13] (fun i wr=>∃j:Nat,j≤L.length∧i= .int .i64 j∧Hid (Kept [] w wr)) (fun i _=>L.length-(intOf i).toNat)
 case atStart=>exact ⟨0,by omega,rfl,Kept.refl _ _⟩
 case round=>
   obtain⟨j,hj,rfl,HK⟩:=hrel
   by_cases hlt:j<L.length
   · have hjI:(j:Int)<L.length:=by omega
     have hd:decide ((j:Int)<L.length)=true:=by simpa using hjI
     obtain⟨x,hx⟩:∃x,L[j]?=some x:=⟨_,List.getElem?_eq_getElem hlt⟩
     obtain⟨g,off,c',e,hr⟩:=Ws.get ((unhide H1).kept (unhide HK) (by simp)) hx
     cases e
     obtain⟨q,oq,d',e,hq⟩:=Ws.get ((unhide H2).kept (unhide HK) (by simp)) hx
     cases e
     have HR1:∀ {W:World},Kept [] wr W→W.rangeAt g (off+j*2) x.C:=fun hk k u hu=>hk.cell (hr k u hu) (by simp)
     have HR2:∀ {W:World},Kept [] wr W→W.rangeAt q (oq+j*2) x.C:=fun hk k u hu=>hk.cell (hq k u hu) (by simp)
     clear hx hr hq
     go_wp2_with fail
     refine wp_region_any mixed (wpAny_tq 9 rfl (by kernel_rfl) [some (.slice (some ⟨g,off,none⟩) L.length c),some (.int .i64 j),some (.pointer (some ⟨g,off+j*2,none⟩)),some (aggV x.C),some (.slice (some ⟨q,oq,none⟩) L.length d),some (.int .i64 j),some (.pointer (some ⟨q,oq+j*2,none⟩)),some (aggV x.C),some (.bool false)] rfl (by kernel_rfl) (by kernel_rfl) ?_ ?_)
     · intro i o' hi hsk ho a' w2 hout hin hk2
       replace hk2:Kept [] wr w2:=ud hk2
       match i,ho,hsk with
       | 0,ho,hsk=>
         cases ho
         exact wp_move (.tmp 0) rfl _ ((hout 0 (by kernel_rfl)).trans rfl) (tE rfl)
       | 1,ho,hsk=>
         cases ho
         exact wp_move (.tmp 5) rfl _ ((hout 5 (by kernel_rfl)).trans rfl) (tE rfl)
       | 2,ho,hsk=>
         cases ho
         exact o_idx38n (.tmp 16) (.tmp 17) rfl g off L.length c j hlt (is_tq (hin 0 16 (by kernel_rfl) (by kernel_rfl)) rfl) (is_tq (hin 1 17 (by kernel_rfl) (by kernel_rfl)) rfl) (tE rfl)
       | 3,ho,hsk=>
         cases ho
         exact wp_loadA row41 (.tmp 18) rfl g (off+j*2) (is_tq (hin 2 18 (by kernel_rfl) (by kernel_rfl)) rfl) (x.C) rfl (HR1 hk2) (tE rfl)
       | 4,ho,hsk=>
         cases ho
         exact wp_move (.tmp 1) rfl _ ((hout 1 (by kernel_rfl)).trans rfl) (tE rfl)
       | 5,ho,hsk=>
         cases ho
         exact wp_move (.tmp 5) rfl _ ((hout 5 (by kernel_rfl)).trans rfl) (tE rfl)
       | 6,ho,hsk=>
         cases ho
         exact o_idx38n (.tmp 20) (.tmp 21) rfl q oq L.length d j hlt (is_tq (hin 4 20 (by kernel_rfl) (by kernel_rfl)) rfl) (is_tq (hin 5 21 (by kernel_rfl) (by kernel_rfl)) rfl) (tE rfl)
       | 7,ho,hsk=>
         cases ho
         exact wp_loadA row41 (.tmp 22) rfl q (oq+j*2) (is_tq (hin 6 22 (by kernel_rfl) (by kernel_rfl)) rfl) (x.C) rfl (HR2 hk2) (tE rfl)
       | 8,ho,hsk=>
         cases ho
         exact o_neqA 38 38 guard41 (.tmp 19) (.tmp 23) rfl (x.C) (x.C) (is_tq (hin 3 19 (by kernel_rfl) (by kernel_rfl)) rfl) (is_tq (hin 7 23 (by kernel_rfl) (by kernel_rfl)) rfl) true ((eqW41 _ _ _).trans (by simp)) (tE rfl)
     intro w9 hk9
     replace hk9:Kept [] wr w9:=ud hk9
     simp only [valsQ,List.map_cons,List.map_nil,Option.getD_some,List.take_succ_cons,List.take_zero,putAll,Act.put,List.setIfInBounds_toArray,List.set_cons_succ,List.set_cons_zero]
     refine wpAny_done (by kernel_rfl) ?_ _
     go_wp2_with fail
     go_roundw
     case rel=>exact ⟨j+1,by omega,by go_num,(unhide HK).trans hk9⟩
     case measure=>simp [intOf];omega
   · have hd:decide ((j:Int)<L.length)=false:=by simp;omega
     go_wp2_with fail
     go_ret
     exact⟨rfl,unhide HK⟩
theorem same40 (s:Lo) (q:List Wi) (ln lm:Value) (b c:Nat) (w:World) (h:Blk w b 108 (s.C ln)) (k:Blk w c 108 (s.C lm)) (hl:Ws w ln q) (hm:Ws w lm q) (hq:q.length≤100000):Calls Try.prog 40 #[P0 b,P0 c] w fun e w'=>e= .returned (.bool true)∧Kept [] w w':=by
 have P:=hide (none40 s _ b w h)
 have R:=hide (none40 s _ c w k)
 have HB:=hide h
 have HL:=hide hl
 have HM:=hide hm
 have HC:=hide k
 clear h k hl hm
 go_enter Try.func40,Try.ntmps40
 go_wp2_with (first |(go_at_call 68;refine(unhide P).mono ?_;rintro e W11 ⟨rfl,q11⟩;replace q11:=q11.symm;subst q11;refine Stp.go ?_))
 constructor
 go_wp2_with (first |(go_at_call 68;refine(unhide R).mono ?_;rintro e W12 ⟨rfl,q12⟩;replace q12:=q12.symm;subst q12;refine Stp.go ?_))
 constructor
 go_wp2_with fail
 refine wp_region_any mixed (wpAny_tq 87 rfl (by kernel_rfl) [some (P0 b),some (P0 b),some (.pointer (some ⟨b,3,none⟩)),some (aggV (b8 s.ho)),some (P0 c),some (P0 c),some (.pointer (some ⟨c,3,none⟩)),some (aggV (b8 s.ho)),some (.bool true),some (.bool true),some (P0 b),some (P0 b),some (.pointer (some ⟨b,1,none⟩)),some (.int .i64 s.ex),some (P0 c),some (P0 c),some (.pointer (some ⟨c,1,none⟩)),some (.int .i64 s.ex),some (.bool true),some (.bool true),some (.bool true),some (P0 b),some (P0 b),some (.pointer (some ⟨b,11,none⟩)),some (aggV (i8 s.ops)),some (P0 c),some (P0 c),some (.pointer (some ⟨c,11,none⟩)),some (aggV (i8 s.ops)),some (.bool true),some (.bool true),some (.bool true),some (P0 b),some (P0 b),some (.pointer (some ⟨b,2,none⟩)),some (.int .i64 s.ow),some (P0 c),some (P0 c),some (.pointer (some ⟨c,2,none⟩)),some (.int .i64 s.ow),some (.bool true),some (.bool true),some (.bool true),some (P0 b),some (P0 b),some (.pointer (some ⟨b,19,none⟩)),some (aggV (b8 s.pa)),some (P0 c),some (P0 c),some (.pointer (some ⟨c,19,none⟩)),some (aggV (b8 s.pa)),some (.bool true),some (.bool true),some (.bool true),some (P0 b),some (P0 b),some (.pointer (some ⟨b,27,none⟩)),some (ln),some (P0 c),some (P0 c),some (.pointer (some ⟨c,27,none⟩)),some (lm),some (.bool true),some (.bool true),some (.bool true),some (P0 b),some (P0 b),some (.pointer (some ⟨b,28,none⟩)),some (aggV (Wi.C (Lo.wi s))),some (P0 c),some (P0 c),some (.pointer (some ⟨c,28,none⟩)),some (aggV (Wi.C (Lo.wi s))),some (.bool true),some (.bool true),some (.bool true),some (P0 b),some (P0 b),some (.pointer (some ⟨b,30,none⟩)),some (.int .i64 s.op),some (P0 c),some (P0 c),some (.pointer (some ⟨c,30,none⟩)),some (.int .i64 s.op),some (.bool true),some (.bool true),some (.bool true)] rfl (by kernel_rfl) (by kernel_rfl) ?_ ?_)
 · intro i o' hi hsk ho a' w2 hout hin hk2
   replace hk2:Kept [] w w2:=ud hk2
   match i,ho,hsk with
   | 0,ho,hsk=>
     cases ho
     exact wp_move (.tmp 0) rfl _ ((hout 0 (by kernel_rfl)).trans rfl) (tE rfl)
   | 1,ho,hsk=>
     cases ho
     exact o_nil (.tmp 17) rfl _ (is_tq (hin 0 17 (by kernel_rfl) (by kernel_rfl)) rfl) (tE rfl)
   | 2,ho,hsk=>
     cases ho
     exact o_fld75_3 (.tmp 18) rfl b (0) (3) rfl (is_tq (hin 1 18 (by kernel_rfl) (by kernel_rfl)) rfl) (tE rfl)
   | 3,ho,hsk=>
     cases ho
     exact wp_loadA row73 (.tmp 19) rfl b (3) (is_tq (hin 2 19 (by kernel_rfl) (by kernel_rfl)) rfl) (b8 s.ho) rfl (Blk.hoA ((unhide HB).kept hk2 (by simp))) (tE rfl)
   | 4,ho,hsk=>
     cases ho
     exact wp_move (.tmp 1) rfl _ ((hout 1 (by kernel_rfl)).trans rfl) (tE rfl)
   | 5,ho,hsk=>
     cases ho
     exact o_nil (.tmp 21) rfl _ (is_tq (hin 4 21 (by kernel_rfl) (by kernel_rfl)) rfl) (tE rfl)
   | 6,ho,hsk=>
     cases ho
     exact o_fld75_3 (.tmp 22) rfl c (0) (3) rfl (is_tq (hin 5 22 (by kernel_rfl) (by kernel_rfl)) rfl) (tE rfl)
   | 7,ho,hsk=>
     cases ho
     exact wp_loadA row73 (.tmp 23) rfl c (3) (is_tq (hin 6 23 (by kernel_rfl) (by kernel_rfl)) rfl) (b8 s.ho) rfl (Blk.hoA ((unhide HC).kept hk2 (by simp))) (tE rfl)
   | 8,ho,hsk=>
     cases ho
     exact o_eqlA 106 106 guard73 (.tmp 20) (.tmp 24) rfl (b8 s.ho) (b8 s.ho) (is_tq (hin 3 20 (by kernel_rfl) (by kernel_rfl)) rfl) (is_tq (hin 7 24 (by kernel_rfl) (by kernel_rfl)) rfl) true ((eqA73 _ _ _).trans (by rw [like_selfN])) (tE rfl)
   | 9,ho,hsk=>
     cases ho
     exact wp_move (.tmp 25) rfl _ (is_tq (hin 8 25 (by kernel_rfl) (by kernel_rfl)) rfl) (tE rfl)
   | 10,ho,hsk=>
     cases ho
     exact wp_move (.tmp 0) rfl _ ((hout 0 (by kernel_rfl)).trans rfl) (tE rfl)
   | 11,ho,hsk=>
     cases ho
     exact o_nil (.tmp 27) rfl _ (is_tq (hin 10 27 (by kernel_rfl) (by kernel_rfl)) rfl) (tE rfl)
   | 12,ho,hsk=>
     cases ho
     exact o_fld75_1 (.tmp 28) rfl b (0) (1) rfl (is_tq (hin 11 28 (by kernel_rfl) (by kernel_rfl)) rfl) (tE rfl)
   | 13,ho,hsk=>
     cases ho
     exact o_load3 (.tmp 29) rfl _ _ (is_tq (hin 12 29 (by kernel_rfl) (by kernel_rfl)) rfl) (fits_cell ((unhide HB).kept hk2 (by simp)) 1 _ rfl) (tE rfl)
   | 14,ho,hsk=>
     cases ho
     exact wp_move (.tmp 1) rfl _ ((hout 1 (by kernel_rfl)).trans rfl) (tE rfl)
   | 15,ho,hsk=>
     cases ho
     exact o_nil (.tmp 31) rfl _ (is_tq (hin 14 31 (by kernel_rfl) (by kernel_rfl)) rfl) (tE rfl)
   | 16,ho,hsk=>
     cases ho
     exact o_fld75_1 (.tmp 32) rfl c (0) (1) rfl (is_tq (hin 15 32 (by kernel_rfl) (by kernel_rfl)) rfl) (tE rfl)
   | 17,ho,hsk=>
     cases ho
     exact o_load3 (.tmp 33) rfl _ _ (is_tq (hin 16 33 (by kernel_rfl) (by kernel_rfl)) rfl) (fits_cell ((unhide HC).kept hk2 (by simp)) 1 _ rfl) (tE rfl)
   | 18,ho,hsk=>
     cases ho
     exact c_eql3 (.tmp 30) (.tmp 34) rfl _ _ (true) (decide_eq_true rfl) (is_tq (hin 13 30 (by kernel_rfl) (by kernel_rfl)) rfl) (is_tq (hin 17 34 (by kernel_rfl) (by kernel_rfl)) rfl) (tE rfl)
   | 19,ho,hsk=>
     cases ho
     exact o_pick (.tmp 26) (.tmp 35) rfl _ (is_tq (hin 9 26 (by kernel_rfl) (by kernel_rfl)) rfl) (is_tq (hin 18 35 (by kernel_rfl) (by kernel_rfl)) rfl) (tE rfl)
   | 20,ho,hsk=>
     cases ho
     exact wp_move (.tmp 36) rfl _ (is_tq (hin 19 36 (by kernel_rfl) (by kernel_rfl)) rfl) (tE rfl)
   | 21,ho,hsk=>
     cases ho
     exact wp_move (.tmp 0) rfl _ ((hout 0 (by kernel_rfl)).trans rfl) (tE rfl)
   | 22,ho,hsk=>
     cases ho
     exact o_nil (.tmp 38) rfl _ (is_tq (hin 21 38 (by kernel_rfl) (by kernel_rfl)) rfl) (tE rfl)
   | 23,ho,hsk=>
     cases ho
     exact o_fld75_4 (.tmp 39) rfl b (0) (11) rfl (is_tq (hin 22 39 (by kernel_rfl) (by kernel_rfl)) rfl) (tE rfl)
   | 24,ho,hsk=>
     cases ho
     exact wp_loadA row37 (.tmp 40) rfl b (11) (is_tq (hin 23 40 (by kernel_rfl) (by kernel_rfl)) rfl) (i8 s.ops) rfl (Blk.opsA ((unhide HB).kept hk2 (by simp))) (tE rfl)
   | 25,ho,hsk=>
     cases ho
     exact wp_move (.tmp 1) rfl _ ((hout 1 (by kernel_rfl)).trans rfl) (tE rfl)
   | 26,ho,hsk=>
     cases ho
     exact o_nil (.tmp 42) rfl _ (is_tq (hin 25 42 (by kernel_rfl) (by kernel_rfl)) rfl) (tE rfl)
   | 27,ho,hsk=>
     cases ho
     exact o_fld75_4 (.tmp 43) rfl c (0) (11) rfl (is_tq (hin 26 43 (by kernel_rfl) (by kernel_rfl)) rfl) (tE rfl)
   | 28,ho,hsk=>
     cases ho
     exact wp_loadA row37 (.tmp 44) rfl c (11) (is_tq (hin 27 44 (by kernel_rfl) (by kernel_rfl)) rfl) (i8 s.ops) rfl (Blk.opsA ((unhide HC).kept hk2 (by simp))) (tE rfl)
   | 29,ho,hsk=>
     cases ho
     exact o_eqlA 34 34 guard37 (.tmp 41) (.tmp 45) rfl (i8 s.ops) (i8 s.ops) (is_tq (hin 24 41 (by kernel_rfl) (by kernel_rfl)) rfl) (is_tq (hin 28 45 (by kernel_rfl) (by kernel_rfl)) rfl) true ((eqA37 _ _ _).trans (by rw [like_selfN])) (tE rfl)
   | 30,ho,hsk=>
     cases ho
     exact o_pick (.tmp 37) (.tmp 46) rfl _ (is_tq (hin 20 37 (by kernel_rfl) (by kernel_rfl)) rfl) (is_tq (hin 29 46 (by kernel_rfl) (by kernel_rfl)) rfl) (tE rfl)
   | 31,ho,hsk=>
     cases ho
     exact wp_move (.tmp 47) rfl _ (is_tq (hin 30 47 (by kernel_rfl) (by kernel_rfl)) rfl) (tE rfl)
   | 32,ho,hsk=>
     cases ho
     exact wp_move (.tmp 0) rfl _ ((hout 0 (by kernel_rfl)).trans rfl) (tE rfl)
   | 33,ho,hsk=>
     cases ho
     exact o_nil (.tmp 49) rfl _ (is_tq (hin 32 49 (by kernel_rfl) (by kernel_rfl)) rfl) (tE rfl)
   | 34,ho,hsk=>
     cases ho
     exact o_fld75_2 (.tmp 50) rfl b (0) (2) rfl (is_tq (hin 33 50 (by kernel_rfl) (by kernel_rfl)) rfl) (tE rfl)
   | 35,ho,hsk=>
     cases ho
     exact o_load3 (.tmp 51) rfl _ _ (is_tq (hin 34 51 (by kernel_rfl) (by kernel_rfl)) rfl) (fits_cell ((unhide HB).kept hk2 (by simp)) 2 _ rfl) (tE rfl)
   | 36,ho,hsk=>
     cases ho
     exact wp_move (.tmp 1) rfl _ ((hout 1 (by kernel_rfl)).trans rfl) (tE rfl)
   | 37,ho,hsk=>
     cases ho
     exact o_nil (.tmp 53) rfl _ (is_tq (hin 36 53 (by kernel_rfl) (by kernel_rfl)) rfl) (tE rfl)
   | 38,ho,hsk=>
     cases ho
     exact o_fld75_2 (.tmp 54) rfl c (0) (2) rfl (is_tq (hin 37 54 (by kernel_rfl) (by kernel_rfl)) rfl) (tE rfl)
   | 39,ho,hsk=>
     cases ho
     exact o_load3 (.tmp 55) rfl _ _ (is_tq (hin 38 55 (by kernel_rfl) (by kernel_rfl)) rfl) (fits_cell ((unhide HC).kept hk2 (by simp)) 2 _ rfl) (tE rfl)
   | 40,ho,hsk=>
     cases ho
     exact c_eql3 (.tmp 52) (.tmp 56) rfl _ _ (true) (decide_eq_true rfl) (is_tq (hin 35 52 (by kernel_rfl) (by kernel_rfl)) rfl) (is_tq (hin 39 56 (by kernel_rfl) (by kernel_rfl)) rfl) (tE rfl)
   | 41,ho,hsk=>
     cases ho
     exact o_pick (.tmp 48) (.tmp 57) rfl _ (is_tq (hin 31 48 (by kernel_rfl) (by kernel_rfl)) rfl) (is_tq (hin 40 57 (by kernel_rfl) (by kernel_rfl)) rfl) (tE rfl)
   | 42,ho,hsk=>
     cases ho
     exact wp_move (.tmp 58) rfl _ (is_tq (hin 41 58 (by kernel_rfl) (by kernel_rfl)) rfl) (tE rfl)
   | 43,ho,hsk=>
     cases ho
     exact wp_move (.tmp 0) rfl _ ((hout 0 (by kernel_rfl)).trans rfl) (tE rfl)
   | 44,ho,hsk=>
     cases ho
     exact o_nil (.tmp 60) rfl _ (is_tq (hin 43 60 (by kernel_rfl) (by kernel_rfl)) rfl) (tE rfl)
   | 45,ho,hsk=>
     cases ho
     exact o_fld75_5 (.tmp 61) rfl b (0) (19) rfl (is_tq (hin 44 61 (by kernel_rfl) (by kernel_rfl)) rfl) (tE rfl)
   | 46,ho,hsk=>
     cases ho
     exact wp_loadA row73 (.tmp 62) rfl b (19) (is_tq (hin 45 62 (by kernel_rfl) (by kernel_rfl)) rfl) (b8 s.pa) rfl (Blk.paA ((unhide HB).kept hk2 (by simp))) (tE rfl)
   | 47,ho,hsk=>
     cases ho
     exact wp_move (.tmp 1) rfl _ ((hout 1 (by kernel_rfl)).trans rfl) (tE rfl)
   | 48,ho,hsk=>
     cases ho
     exact o_nil (.tmp 64) rfl _ (is_tq (hin 47 64 (by kernel_rfl) (by kernel_rfl)) rfl) (tE rfl)
   | 49,ho,hsk=>
     cases ho
     exact o_fld75_5 (.tmp 65) rfl c (0) (19) rfl (is_tq (hin 48 65 (by kernel_rfl) (by kernel_rfl)) rfl) (tE rfl)
   | 50,ho,hsk=>
     cases ho
     exact wp_loadA row73 (.tmp 66) rfl c (19) (is_tq (hin 49 66 (by kernel_rfl) (by kernel_rfl)) rfl) (b8 s.pa) rfl (Blk.paA ((unhide HC).kept hk2 (by simp))) (tE rfl)
   | 51,ho,hsk=>
     cases ho
     exact o_eqlA 106 106 guard73 (.tmp 63) (.tmp 67) rfl (b8 s.pa) (b8 s.pa) (is_tq (hin 46 63 (by kernel_rfl) (by kernel_rfl)) rfl) (is_tq (hin 50 67 (by kernel_rfl) (by kernel_rfl)) rfl) true ((eqA73 _ _ _).trans (by rw [like_selfN])) (tE rfl)
   | 52,ho,hsk=>
     cases ho
     exact o_pick (.tmp 59) (.tmp 68) rfl _ (is_tq (hin 42 59 (by kernel_rfl) (by kernel_rfl)) rfl) (is_tq (hin 51 68 (by kernel_rfl) (by kernel_rfl)) rfl) (tE rfl)
   | 53,ho,hsk=>
     cases ho
     exact wp_move (.tmp 69) rfl _ (is_tq (hin 52 69 (by kernel_rfl) (by kernel_rfl)) rfl) (tE rfl)
   | 54,ho,hsk=>
     cases ho
     exact wp_move (.tmp 0) rfl _ ((hout 0 (by kernel_rfl)).trans rfl) (tE rfl)
   | 55,ho,hsk=>
     cases ho
     exact o_nil (.tmp 71) rfl _ (is_tq (hin 54 71 (by kernel_rfl) (by kernel_rfl)) rfl) (tE rfl)
   | 56,ho,hsk=>
     cases ho
     exact o_fld75_6 (.tmp 72) rfl b (0) (27) rfl (is_tq (hin 55 72 (by kernel_rfl) (by kernel_rfl)) rfl) (tE rfl)
   | 57,ho,hsk=>
     cases ho
     exact o_load38 (.tmp 73) rfl _ _ (is_tq (hin 56 73 (by kernel_rfl) (by kernel_rfl)) rfl) (fits_cell ((unhide HB).kept hk2 (by simp)) 27 _ rfl) (tE rfl)
   | 58,ho,hsk=>
     cases ho
     exact wp_move (.tmp 1) rfl _ ((hout 1 (by kernel_rfl)).trans rfl) (tE rfl)
   | 59,ho,hsk=>
     cases ho
     exact o_nil (.tmp 75) rfl _ (is_tq (hin 58 75 (by kernel_rfl) (by kernel_rfl)) rfl) (tE rfl)
   | 60,ho,hsk=>
     cases ho
     exact o_fld75_6 (.tmp 76) rfl c (0) (27) rfl (is_tq (hin 59 76 (by kernel_rfl) (by kernel_rfl)) rfl) (tE rfl)
   | 61,ho,hsk=>
     cases ho
     exact o_load38 (.tmp 77) rfl _ _ (is_tq (hin 60 77 (by kernel_rfl) (by kernel_rfl)) rfl) (fits_cell ((unhide HC).kept hk2 (by simp)) 27 _ rfl) (tE rfl)
   | 62,ho,hsk=>
     cases ho
     have e0:a'.eval (.tmp 74)=ln:=is_tq (hin 57 74 (by kernel_rfl) (by kernel_rfl)) rfl
     have e1:a'.eval (.tmp 78)=lm:=is_tq (hin 61 78 (by kernel_rfl) (by kernel_rfl)) rfl
     refine wp_callF 74 _ _ rfl #[ln,lm] (by simp [e0,e1]) (cg57 _ _) ((eq74 q ln lm _ ((unhide HL).kept hk2 (by simp)) ((unhide HM).kept hk2 (by simp)) hq).mono ?_)
     rintro e w3 ⟨rfl,hk3⟩
     exact⟨_,rfl,_,rfl,tq_is _ _ _ _ rfl,hk3,fun _ _ _ _ _=>trivial⟩
   | 63,ho,hsk=>
     cases ho
     exact o_pick (.tmp 70) (.tmp 79) rfl _ (is_tq (hin 53 70 (by kernel_rfl) (by kernel_rfl)) rfl) (is_tq (hin 62 79 (by kernel_rfl) (by kernel_rfl)) rfl) (tE rfl)
   | 64,ho,hsk=>
     cases ho
     exact wp_move (.tmp 80) rfl _ (is_tq (hin 63 80 (by kernel_rfl) (by kernel_rfl)) rfl) (tE rfl)
   | 65,ho,hsk=>
     cases ho
     exact wp_move (.tmp 0) rfl _ ((hout 0 (by kernel_rfl)).trans rfl) (tE rfl)
   | 66,ho,hsk=>
     cases ho
     exact o_nil (.tmp 82) rfl _ (is_tq (hin 65 82 (by kernel_rfl) (by kernel_rfl)) rfl) (tE rfl)
   | 67,ho,hsk=>
     cases ho
     exact o_fld75_7 (.tmp 83) rfl b (0) (28) rfl (is_tq (hin 66 83 (by kernel_rfl) (by kernel_rfl)) rfl) (tE rfl)
   | 68,ho,hsk=>
     cases ho
     exact wp_loadA row41 (.tmp 84) rfl b (28) (is_tq (hin 67 84 (by kernel_rfl) (by kernel_rfl)) rfl) (Wi.C (Lo.wi s)) rfl (Blk.hand ((unhide HB).kept hk2 (by simp))) (tE rfl)
   | 69,ho,hsk=>
     cases ho
     exact wp_move (.tmp 1) rfl _ ((hout 1 (by kernel_rfl)).trans rfl) (tE rfl)
   | 70,ho,hsk=>
     cases ho
     exact o_nil (.tmp 86) rfl _ (is_tq (hin 69 86 (by kernel_rfl) (by kernel_rfl)) rfl) (tE rfl)
   | 71,ho,hsk=>
     cases ho
     exact o_fld75_7 (.tmp 87) rfl c (0) (28) rfl (is_tq (hin 70 87 (by kernel_rfl) (by kernel_rfl)) rfl) (tE rfl)
   | 72,ho,hsk=>
     cases ho
     exact wp_loadA row41 (.tmp 88) rfl c (28) (is_tq (hin 71 88 (by kernel_rfl) (by kernel_rfl)) rfl) (Wi.C (Lo.wi s)) rfl (Blk.hand ((unhide HC).kept hk2 (by simp))) (tE rfl)
   | 73,ho,hsk=>
     cases ho
     exact o_eqlA 38 38 guard41 (.tmp 85) (.tmp 89) rfl (Wi.C (Lo.wi s)) (Wi.C (Lo.wi s)) (is_tq (hin 68 85 (by kernel_rfl) (by kernel_rfl)) rfl) (is_tq (hin 72 89 (by kernel_rfl) (by kernel_rfl)) rfl) true ((eqW41 _ _ _).trans (by simp)) (tE rfl)
   | 74,ho,hsk=>
     cases ho
     exact o_pick (.tmp 81) (.tmp 90) rfl _ (is_tq (hin 64 81 (by kernel_rfl) (by kernel_rfl)) rfl) (is_tq (hin 73 90 (by kernel_rfl) (by kernel_rfl)) rfl) (tE rfl)
   | 75,ho,hsk=>
     cases ho
     exact wp_move (.tmp 91) rfl _ (is_tq (hin 74 91 (by kernel_rfl) (by kernel_rfl)) rfl) (tE rfl)
   | 76,ho,hsk=>
     cases ho
     exact wp_move (.tmp 0) rfl _ ((hout 0 (by kernel_rfl)).trans rfl) (tE rfl)
   | 77,ho,hsk=>
     cases ho
     exact o_nil (.tmp 93) rfl _ (is_tq (hin 76 93 (by kernel_rfl) (by kernel_rfl)) rfl) (tE rfl)
   | 78,ho,hsk=>
     cases ho
     exact o_fld75_8 (.tmp 94) rfl b (0) (30) rfl (is_tq (hin 77 94 (by kernel_rfl) (by kernel_rfl)) rfl) (tE rfl)
   | 79,ho,hsk=>
     cases ho
     exact o_load2 (.tmp 95) rfl _ _ (is_tq (hin 78 95 (by kernel_rfl) (by kernel_rfl)) rfl) (fits_cell ((unhide HB).kept hk2 (by simp)) 30 _ rfl) (tE rfl)
   | 80,ho,hsk=>
     cases ho
     exact wp_move (.tmp 1) rfl _ ((hout 1 (by kernel_rfl)).trans rfl) (tE rfl)
   | 81,ho,hsk=>
     cases ho
     exact o_nil (.tmp 97) rfl _ (is_tq (hin 80 97 (by kernel_rfl) (by kernel_rfl)) rfl) (tE rfl)
   | 82,ho,hsk=>
     cases ho
     exact o_fld75_8 (.tmp 98) rfl c (0) (30) rfl (is_tq (hin 81 98 (by kernel_rfl) (by kernel_rfl)) rfl) (tE rfl)
   | 83,ho,hsk=>
     cases ho
     exact o_load2 (.tmp 99) rfl _ _ (is_tq (hin 82 99 (by kernel_rfl) (by kernel_rfl)) rfl) (fits_cell ((unhide HC).kept hk2 (by simp)) 30 _ rfl) (tE rfl)
   | 84,ho,hsk=>
     cases ho
     exact c_eql2 (.tmp 96) (.tmp 100) rfl _ _ (true) (decide_eq_true rfl) (is_tq (hin 79 96 (by kernel_rfl) (by kernel_rfl)) rfl) (is_tq (hin 83 100 (by kernel_rfl) (by kernel_rfl)) rfl) (tE rfl)
   | 85,ho,hsk=>
     cases ho
     exact o_pick (.tmp 92) (.tmp 101) rfl _ (is_tq (hin 75 92 (by kernel_rfl) (by kernel_rfl)) rfl) (is_tq (hin 84 101 (by kernel_rfl) (by kernel_rfl)) rfl) (tE rfl)
   | 86,ho,hsk=>
     cases ho
     exact wp_assignV (.tmp 102) rfl _ (is_tq (hin 85 102 (by kernel_rfl) (by kernel_rfl)) rfl) (tE rfl)
 intro w9 hk9
 replace hk9:Kept [] w w9:=ud hk9
 generalize hA:putAll _ _ _=A
 have E:A=⟨#[P0 b,P0 c,undef,undef,.bool true,P0 b,.bool false,.bool false,P0 c,.bool false,.bool false,undef,undef,undef,undef,undef,undef,P0 b,P0 b,.pointer (some ⟨b,3,none⟩),aggV (b8 s.ho),P0 c,P0 c,.pointer (some ⟨c,3,none⟩),aggV (b8 s.ho),.bool true,.bool true,P0 b,P0 b,.pointer (some ⟨b,1,none⟩),.int .i64 s.ex,P0 c,P0 c,.pointer (some ⟨c,1,none⟩),.int .i64 s.ex,.bool true,.bool true,.bool true,P0 b,P0 b,.pointer (some ⟨b,11,none⟩),aggV (i8 s.ops),P0 c,P0 c,.pointer (some ⟨c,11,none⟩),aggV (i8 s.ops),.bool true,.bool true,.bool true,P0 b,P0 b,.pointer (some ⟨b,2,none⟩),.int .i64 s.ow,P0 c,P0 c,.pointer (some ⟨c,2,none⟩),.int .i64 s.ow,.bool true,.bool true,.bool true,P0 b,P0 b,.pointer (some ⟨b,19,none⟩),aggV (b8 s.pa),P0 c,P0 c,.pointer (some ⟨c,19,none⟩),aggV (b8 s.pa),.bool true,.bool true,.bool true,P0 b,P0 b,.pointer (some ⟨b,27,none⟩),ln,P0 c,P0 c,.pointer (some ⟨c,27,none⟩),lm,.bool true,.bool true,.bool true,P0 b,P0 b,.pointer (some ⟨b,28,none⟩),aggV (Wi.C (Lo.wi s)),P0 c,P0 c,.pointer (some ⟨c,28,none⟩),aggV (Wi.C (Lo.wi s)),.bool true,.bool true,.bool true,P0 b,P0 b,.pointer (some ⟨b,30,none⟩),.int .i64 s.op,P0 c,P0 c,.pointer (some ⟨c,30,none⟩),.int .i64 s.op,.bool true,.bool true],[]⟩:=by rw [← hA];kernel_rfl
 subst E
 clear hA
 refine wpAny_done (by kernel_rfl) ?_ _
 go_wp2_with fail
 go_ret
 exact⟨rfl,hk9⟩
theorem same40_ln (u:Value) (s:Lo) (ln:Value) (b:Nat) (w:World) (h:Nl w u) (k:Blk w b 108 (s.C ln)):Calls Try.prog 40 #[P0 b,u] w fun e w'=>e= .returned (.bool false)∧w'=w:=by
 have P:=hide (none_n u w h)
 have R:=hide (none40 s ln b w k)
 clear h k
 go_enter Try.func40,Try.ntmps40
 go_wp2_with (first |(go_at_call 68;refine(unhide R).mono ?_;rintro e W11 ⟨rfl,q11⟩;replace q11:=q11.symm;subst q11;refine Stp.go ?_))
 constructor
 go_wp2_with (first |(go_at_call 68;refine(unhide P).mono ?_;rintro e W11 ⟨rfl,q11⟩;replace q11:=q11.symm;subst q11;refine Stp.go ?_))
 constructor
 go_wp2_with (first |(go_at_call 68;refine(unhide R).mono ?_;rintro e W11 ⟨rfl,q11⟩;replace q11:=q11.symm;subst q11;refine Stp.go ?_))
 constructor
 go_wp2_with fail
 go_ret
 exact⟨rfl,rfl⟩
end Go.Proofs.Ytbigongmlpoahaa.D
