import Derived.Test.YtbigongmlpoahaaUFf
namespace Go.Proofs.Ytbigongmlpoahaa
set_option maxHeartbeats 2000000
set_option maxRecDepth 100000
set_option linter.unusedSimpArgs false
open Go.RowKit
def Lo.bSh (s:Lo):Lo×List Od:=if s.ho s.hn then (s.over,[]) else s.handOn
def Lo.bEx (s:Lo):Lo×List Od:=if s.ex=(s.hn:Int) then (s.over,[]) else s.handOver
def Lo.setPa (s:Lo) (n:Nat) (v:Bool):Lo:= { s with pa:=upd s.pa n v }
def Lo.needless (s:Lo):Lo×List Od:=((s.setPa s.hn false).over,[⟨6,s.hn,0,0,0,2147483647⟩])
def Lo.bCl (s:Lo):Lo×List Od:=if s.ow= -1 then (s.setPa s.hn true).needless else (s.setPa s.hn true,[⟨5,s.ow,s.op,0,0,0⟩])
def Lo.opUp (s:Lo):Lo:= { s with op:=s.op+1 }
def Lo.anew (s:Lo):Lo×List Od:=if s.hk=1 then s.opUp.handOn else s.opUp.handOver
theorem setPa_ok {s:Lo} (h:s.Ok) (n:Nat) (v:Bool):(s.setPa n v).Ok:=⟨h.ex,h.ow,h.su,h.hn⟩
theorem opUp_ok {s:Lo} (h:s.Ok):s.opUp.Ok:=⟨h.ex,h.ow,h.su,h.hn⟩
theorem bSh_a (s:Lo) (ln:Value) (b:Nat) (w:World) (h:Blk w b 108 (s.C ln)) (hs:s.Ok) (h3:s.ho s.hn=true):Calls Try.prog 102 #[P0 b] w (LR b ln w (s.over,[])):=by
 have M:=hide (Mm.one h)
 have HS:=hide hs
 have hh:=hs.hn
 clear h hs
 go_enter Try.func102,Try.ntmps102
 go_wp2_with fail
 refine wp_region_any mixed (wpAny_tq 10 rfl (by kernel_rfl) [some (P0 b),some (P0 b),some (P0 b),some (.pointer (some ⟨b,28,none⟩)),some (.pointer (some ⟨b,28,none⟩)),some (.int .i64 s.hn),some (P0 b),some (.pointer (some ⟨b,3,none⟩)),some (.pointer (some ⟨b,3+s.hn,none⟩)),some (.bool true)] rfl (by kernel_rfl) (by kernel_rfl) ?_ ?_)
 · intro i o' hi hsk ho a' w2 hout hin hk2
   replace hk2:Kept [] w w2:=ud hk2
   match i,ho,hsk with
   | 0,ho,hsk=>
     cases ho
     exact wp_move (.tmp 0) rfl _ ((ho9 hout 0).trans rfl) (tE rfl)
   | 1,ho,hsk=>
     cases ho
     exact wp_move (.tmp 0) rfl _ ((ho9 hout 0).trans rfl) (tE rfl)
   | 2,ho,hsk=>
     cases ho
     exact o_nil (.tmp 4) rfl _ (is_tq (hi9 hin 1 4) rfl) (tE rfl)
   | 3,ho,hsk=>
     cases ho
     exact o_fld75_7 (.tmp 5) rfl b (0) (28) rfl (is_tq (hi9 hin 2 5) rfl) (tE rfl)
   | 4,ho,hsk=>
     cases ho
     exact o_fld41_0 (.tmp 6) rfl b (28) (28) rfl (is_tq (hi9 hin 3 6) rfl) (tE rfl)
   | 5,ho,hsk=>
     cases ho
     exact o_load3 (.tmp 7) rfl _ _ (is_tq (hi9 hin 4 7) rfl) (fits_cell (((unhide M).step hk2).at 0 _ rfl) 28 _ rfl) (tE rfl)
   | 6,ho,hsk=>
     cases ho
     exact o_nil (.tmp 3) rfl _ (is_tq (hi9 hin 0 3) rfl) (tE rfl)
   | 7,ho,hsk=>
     cases ho
     exact o_fld75_3 (.tmp 9) rfl b (0) (3) rfl (is_tq (hi9 hin 6 9) rfl) (tE rfl)
   | 8,ho,hsk=>
     cases ho
     exact o_idx73 (.tmp 10) (.tmp 8) rfl b (3) s.hn (3+s.hn) (hh) rfl (is_tq (hi9 hin 7 10) rfl) (is_tq (hi9 hin 5 8) rfl) (tE rfl)
   | 9,ho,hsk=>
     cases ho
     exact o_load4 (.tmp 11) rfl _ _ (is_tq (hi9 hin 8 11) rfl) (by have h9:=Blk.ho (((unhide M).step hk2).at 0 _ rfl) (hh);rw [h3] at h9;exact h9) (tE rfl)
 intro w9 hk9
 replace hk9:Kept [] w w9:=ud hk9
 simp only [valsQ,List.map_cons,List.map_nil,Option.getD_some,List.take_succ_cons,List.take_zero,putAll,Act.put,List.setIfInBounds_toArray,List.set_cons_succ,List.set_cons_zero]
 refine wpAny_done (by kernel_rfl) ?_ _
 replace M:=hide ((unhide M).step hk9)
 clear hk9
 go_wp2_with (first |(go_at_call 94;refine(over69 s ln b _ ((unhide M).at 0 _ rfl)).mono ?_;rintro e W1 ⟨rfl,B1,K1⟩;replace M:Hid (Mm [b] w W1 [(b,108,s.over.C ln)]):=hide ((unhide M).mut 0 rfl K1 B1);clear B1 K1;refine Stp.go ?_))
 constructor
 go_wp2_with fail
 go_ret
 exact⟨_,rfl,New.nil _ _ _ _,(unhide M).at 0 _ rfl,(unhide M).kept⟩
theorem bSh_b (s:Lo) (ln:Value) (b:Nat) (w:World) (h:Blk w b 108 (s.C ln)) (hs:s.Ok) (h3:s.ho s.hn=false):Calls Try.prog 102 #[P0 b] w (LR b ln w s.handOn):=by
 have M:=hide (Mm.one h)
 have HS:=hide hs
 have hh:=hs.hn
 clear h hs
 go_enter Try.func102,Try.ntmps102
 go_wp2_with fail
 refine wp_region_any mixed (wpAny_tq 10 rfl (by kernel_rfl) [some (P0 b),some (P0 b),some (P0 b),some (.pointer (some ⟨b,28,none⟩)),some (.pointer (some ⟨b,28,none⟩)),some (.int .i64 s.hn),some (P0 b),some (.pointer (some ⟨b,3,none⟩)),some (.pointer (some ⟨b,3+s.hn,none⟩)),some (.bool false)] rfl (by kernel_rfl) (by kernel_rfl) ?_ ?_)
 · intro i o' hi hsk ho a' w2 hout hin hk2
   replace hk2:Kept [] w w2:=ud hk2
   match i,ho,hsk with
   | 0,ho,hsk=>
     cases ho
     exact wp_move (.tmp 0) rfl _ ((ho9 hout 0).trans rfl) (tE rfl)
   | 1,ho,hsk=>
     cases ho
     exact wp_move (.tmp 0) rfl _ ((ho9 hout 0).trans rfl) (tE rfl)
   | 2,ho,hsk=>
     cases ho
     exact o_nil (.tmp 4) rfl _ (is_tq (hi9 hin 1 4) rfl) (tE rfl)
   | 3,ho,hsk=>
     cases ho
     exact o_fld75_7 (.tmp 5) rfl b (0) (28) rfl (is_tq (hi9 hin 2 5) rfl) (tE rfl)
   | 4,ho,hsk=>
     cases ho
     exact o_fld41_0 (.tmp 6) rfl b (28) (28) rfl (is_tq (hi9 hin 3 6) rfl) (tE rfl)
   | 5,ho,hsk=>
     cases ho
     exact o_load3 (.tmp 7) rfl _ _ (is_tq (hi9 hin 4 7) rfl) (fits_cell (((unhide M).step hk2).at 0 _ rfl) 28 _ rfl) (tE rfl)
   | 6,ho,hsk=>
     cases ho
     exact o_nil (.tmp 3) rfl _ (is_tq (hi9 hin 0 3) rfl) (tE rfl)
   | 7,ho,hsk=>
     cases ho
     exact o_fld75_3 (.tmp 9) rfl b (0) (3) rfl (is_tq (hi9 hin 6 9) rfl) (tE rfl)
   | 8,ho,hsk=>
     cases ho
     exact o_idx73 (.tmp 10) (.tmp 8) rfl b (3) s.hn (3+s.hn) (hh) rfl (is_tq (hi9 hin 7 10) rfl) (is_tq (hi9 hin 5 8) rfl) (tE rfl)
   | 9,ho,hsk=>
     cases ho
     exact o_load4 (.tmp 11) rfl _ _ (is_tq (hi9 hin 8 11) rfl) (by have h9:=Blk.ho (((unhide M).step hk2).at 0 _ rfl) (hh);rw [h3] at h9;exact h9) (tE rfl)
 intro w9 hk9
 replace hk9:Kept [] w w9:=ud hk9
 simp only [valsQ,List.map_cons,List.map_nil,Option.getD_some,List.take_succ_cons,List.take_zero,putAll,Act.put,List.setIfInBounds_toArray,List.set_cons_succ,List.set_cons_zero]
 refine wpAny_done (by kernel_rfl) ?_ _
 replace M:=hide ((unhide M).step hk9)
 clear hk9
 go_wp2_with (first |(go_at_call 95;refine(handOn68 s ln b _ ((unhide M).at 0 _ rfl) (unhide HS)).mono ?_;rintro e W1 ⟨xv,rfl,N1,B1,K1⟩;have HO:Hid _:=hide (N1.elder (w:=w) (unhide M).kept.size);replace M:Hid (Mm [b] w W1 [(b,108,s.handOn.1.C ln)]):=hide ((unhide M).mut 0 rfl K1 B1);clear N1 B1 K1;refine Stp.go ?_))
 constructor
 go_wp2_with fail
 go_ret
 exact⟨xv,rfl,unhide HO,(unhide M).at 0 _ rfl,(unhide M).kept⟩
theorem bEx_a (s:Lo) (ln:Value) (b:Nat) (w:World) (h:Blk w b 108 (s.C ln)) (hs:s.Ok) (h3:s.ex=(s.hn:Int)):Calls Try.prog 103 #[P0 b] w (LR b ln w (s.over,[])):=by
 have M:=hide (Mm.one h)
 have HS:=hide hs
 have hh:=hs.hn
 clear h hs
 have h4:decide (s.ex=(s.hn:Int))=true:=by simpa using h3
 clear h3
 go_enter Try.func103,Try.ntmps103
 go_wp2_with fail
 refine wp_region_any mixed (wpAny_tq 10 rfl (by kernel_rfl) [some (P0 b),some (P0 b),some (.pointer (some ⟨b,1,none⟩)),some (.int .i64 s.ex),some (P0 b),some (P0 b),some (.pointer (some ⟨b,28,none⟩)),some (.pointer (some ⟨b,28,none⟩)),some (.int .i64 s.hn),some (.bool true)] rfl (by kernel_rfl) (by kernel_rfl) ?_ ?_)
 · intro i o' hi hsk ho a' w2 hout hin hk2
   replace hk2:Kept [] w w2:=ud hk2
   match i,ho,hsk with
   | 0,ho,hsk=>
     cases ho
     exact wp_move (.tmp 0) rfl _ ((ho9 hout 0).trans rfl) (tE rfl)
   | 1,ho,hsk=>
     cases ho
     exact o_nil (.tmp 3) rfl _ (is_tq (hi9 hin 0 3) rfl) (tE rfl)
   | 2,ho,hsk=>
     cases ho
     exact o_fld75_1 (.tmp 4) rfl b (0) (1) rfl (is_tq (hi9 hin 1 4) rfl) (tE rfl)
   | 3,ho,hsk=>
     cases ho
     exact o_load3 (.tmp 5) rfl _ _ (is_tq (hi9 hin 2 5) rfl) (fits_cell (((unhide M).step hk2).at 0 _ rfl) 1 _ rfl) (tE rfl)
   | 4,ho,hsk=>
     cases ho
     exact wp_move (.tmp 0) rfl _ ((ho9 hout 0).trans rfl) (tE rfl)
   | 5,ho,hsk=>
     cases ho
     exact o_nil (.tmp 7) rfl _ (is_tq (hi9 hin 4 7) rfl) (tE rfl)
   | 6,ho,hsk=>
     cases ho
     exact o_fld75_7 (.tmp 8) rfl b (0) (28) rfl (is_tq (hi9 hin 5 8) rfl) (tE rfl)
   | 7,ho,hsk=>
     cases ho
     exact o_fld41_0 (.tmp 9) rfl b (28) (28) rfl (is_tq (hi9 hin 6 9) rfl) (tE rfl)
   | 8,ho,hsk=>
     cases ho
     exact o_load3 (.tmp 10) rfl _ _ (is_tq (hi9 hin 7 10) rfl) (fits_cell (((unhide M).step hk2).at 0 _ rfl) 28 _ rfl) (tE rfl)
   | 9,ho,hsk=>
     cases ho
     exact c_eql3 (.tmp 6) (.tmp 11) rfl _ _ (true) (h4) (is_tq (hi9 hin 3 6) rfl) (is_tq (hi9 hin 8 11) rfl) (tE rfl)
 intro w9 hk9
 replace hk9:Kept [] w w9:=ud hk9
 simp only [valsQ,List.map_cons,List.map_nil,Option.getD_some,List.take_succ_cons,List.take_zero,putAll,Act.put,List.setIfInBounds_toArray,List.set_cons_succ,List.set_cons_zero]
 refine wpAny_done (by kernel_rfl) ?_ _
 replace M:=hide ((unhide M).step hk9)
 clear hk9
 go_wp2_with (first |(go_at_call 94;refine(over69 s ln b _ ((unhide M).at 0 _ rfl)).mono ?_;rintro e W1 ⟨rfl,B1,K1⟩;replace M:Hid (Mm [b] w W1 [(b,108,s.over.C ln)]):=hide ((unhide M).mut 0 rfl K1 B1);clear B1 K1;refine Stp.go ?_))
 constructor
 go_wp2_with fail
 go_ret
 exact⟨_,rfl,New.nil _ _ _ _,(unhide M).at 0 _ rfl,(unhide M).kept⟩
theorem bEx_b (s:Lo) (ln:Value) (b:Nat) (w:World) (h:Blk w b 108 (s.C ln)) (hs:s.Ok) (h3:¬s.ex=(s.hn:Int)):Calls Try.prog 103 #[P0 b] w (LR b ln w s.handOver):=by
 have M:=hide (Mm.one h)
 have HS:=hide hs
 have hh:=hs.hn
 clear h hs
 have h4:decide (s.ex=(s.hn:Int))=false:=by simpa using h3
 clear h3
 go_enter Try.func103,Try.ntmps103
 go_wp2_with fail
 refine wp_region_any mixed (wpAny_tq 10 rfl (by kernel_rfl) [some (P0 b),some (P0 b),some (.pointer (some ⟨b,1,none⟩)),some (.int .i64 s.ex),some (P0 b),some (P0 b),some (.pointer (some ⟨b,28,none⟩)),some (.pointer (some ⟨b,28,none⟩)),some (.int .i64 s.hn),some (.bool false)] rfl (by kernel_rfl) (by kernel_rfl) ?_ ?_)
 · intro i o' hi hsk ho a' w2 hout hin hk2
   replace hk2:Kept [] w w2:=ud hk2
   match i,ho,hsk with
   | 0,ho,hsk=>
     cases ho
     exact wp_move (.tmp 0) rfl _ ((ho9 hout 0).trans rfl) (tE rfl)
   | 1,ho,hsk=>
     cases ho
     exact o_nil (.tmp 3) rfl _ (is_tq (hi9 hin 0 3) rfl) (tE rfl)
   | 2,ho,hsk=>
     cases ho
     exact o_fld75_1 (.tmp 4) rfl b (0) (1) rfl (is_tq (hi9 hin 1 4) rfl) (tE rfl)
   | 3,ho,hsk=>
     cases ho
     exact o_load3 (.tmp 5) rfl _ _ (is_tq (hi9 hin 2 5) rfl) (fits_cell (((unhide M).step hk2).at 0 _ rfl) 1 _ rfl) (tE rfl)
   | 4,ho,hsk=>
     cases ho
     exact wp_move (.tmp 0) rfl _ ((ho9 hout 0).trans rfl) (tE rfl)
   | 5,ho,hsk=>
     cases ho
     exact o_nil (.tmp 7) rfl _ (is_tq (hi9 hin 4 7) rfl) (tE rfl)
   | 6,ho,hsk=>
     cases ho
     exact o_fld75_7 (.tmp 8) rfl b (0) (28) rfl (is_tq (hi9 hin 5 8) rfl) (tE rfl)
   | 7,ho,hsk=>
     cases ho
     exact o_fld41_0 (.tmp 9) rfl b (28) (28) rfl (is_tq (hi9 hin 6 9) rfl) (tE rfl)
   | 8,ho,hsk=>
     cases ho
     exact o_load3 (.tmp 10) rfl _ _ (is_tq (hi9 hin 7 10) rfl) (fits_cell (((unhide M).step hk2).at 0 _ rfl) 28 _ rfl) (tE rfl)
   | 9,ho,hsk=>
     cases ho
     exact c_eql3 (.tmp 6) (.tmp 11) rfl _ _ (false) (h4) (is_tq (hi9 hin 3 6) rfl) (is_tq (hi9 hin 8 11) rfl) (tE rfl)
 intro w9 hk9
 replace hk9:Kept [] w w9:=ud hk9
 simp only [valsQ,List.map_cons,List.map_nil,Option.getD_some,List.take_succ_cons,List.take_zero,putAll,Act.put,List.setIfInBounds_toArray,List.set_cons_succ,List.set_cons_zero]
 refine wpAny_done (by kernel_rfl) ?_ _
 replace M:=hide ((unhide M).step hk9)
 clear hk9
 go_wp2_with (first |(go_at_call 93;refine(handOver67 s ln b _ ((unhide M).at 0 _ rfl) (unhide HS)).mono ?_;rintro e W1 ⟨xv,rfl,N1,B1,K1⟩;have HO:Hid _:=hide (N1.elder (w:=w) (unhide M).kept.size);replace M:Hid (Mm [b] w W1 [(b,108,s.handOver.1.C ln)]):=hide ((unhide M).mut 0 rfl K1 B1);clear N1 B1 K1;refine Stp.go ?_))
 constructor
 go_wp2_with fail
 go_ret
 exact⟨xv,rfl,unhide HO,(unhide M).at 0 _ rfl,(unhide M).kept⟩
theorem bSh78 (s:Lo) (ln:Value) (b:Nat) (w:World) (h:Blk w b 108 (s.C ln)) (hs:s.Ok):Calls Try.prog 102 #[P0 b] w (LR b ln w s.bSh):=by
 unfold Lo.bSh
 cases h3:s.ho s.hn with
 | true=>exact bSh_a s ln b w h hs h3
 | false=>exact bSh_b s ln b w h hs h3
theorem bEx79 (s:Lo) (ln:Value) (b:Nat) (w:World) (h:Blk w b 108 (s.C ln)) (hs:s.Ok):Calls Try.prog 103 #[P0 b] w (LR b ln w s.bEx):=by
 unfold Lo.bEx
 by_cases h3:s.ex=(s.hn:Int)
 · rw [if_pos h3];exact bEx_a s ln b w h hs h3
 · rw [if_neg h3];exact bEx_b s ln b w h hs h3
theorem needless54 (s:Lo) (ln:Value) (b:Nat) (w:World) (h:Blk w b 108 (s.C ln)) (hs:s.Ok):Calls Try.prog 85 #[P0 b] w (LR b ln w s.needless):=by
 have M:=hide (Mm.one h)
 have hh:=hs.hn
 have hhI:(s.hn:Int)<8:=by omega
 have c28:=fits_cell h 28 _ rfl
 clear h hs
 go_enter Try.func85,Try.ntmps85
 go_wp2_with (first |(refine wpSt1 size4 rfl (.tmp 13) (.const (.bool false)) rfl rfl b (19+s.hn) 0 (.bool false) (⟨rfl,rfl⟩) rfl rfl (unhide M) rfl (by show 19+s.hn<40;omega) (Lo.pa_set s ln s.hn hh false) ?_;intro W1 N1;replace M:Hid (Mm [b] w W1 [(b,108,(s.setPa s.hn false).C ln)]):=hide N1;clear N1;clear c28;refine Stp.go ?_))
 constructor
 go_wp2_with (first |(go_at_call 94;refine(over69 (s.setPa s.hn false) ln b _ ((unhide M).at 0 _ rfl)).mono ?_;rintro e W2 ⟨rfl,B2,K2⟩;replace M:Hid (Mm [b] w W2 [(b,108,s.needless.1.C ln)]):=hide ((unhide M).mut 0 rfl K2 B2);clear B2 K2;refine Stp.go ?_))
 constructor
 go_wp2_with (first |(refine wpBuildP (by rfl) #[(0,.const (.int .i64 6)),(1,.tmp 16),(5,.const (.int .i64 2147483647))] (by rfl) #[(0,.int .i64 6),(1,.int .i64 s.hn),(5,.int .i64 2147483647)] (by kernel_rfl) (Od.C ⟨6,s.hn,0,0,0,2147483647⟩) (bod _ 6 s.hn 2147483647) ?_;refine Stp.go ?_))
 constructor
 go_wp2_with (first |(refine wpBs28 rfl (.tmp 17) rfl ⟨6,s.hn,0,0,0,2147483647⟩ rfl ?_;intro W3 g1 e1 B1 K1;have HG:Hid (w.heap.size≤g1):=(by show _≤_;rw [e1];exact(unhide M).kept.size);replace M:=hide ((unhide M).new e1 B1 K1);clear e1 B1 K1;refine Stp.go ?_))
 constructor
 go_wp2_with fail
 go_ret
 exact⟨_,rfl,Ou.made ((unhide M).at 1 _ rfl) (unhide HG),(unhide M).at 0 _ rfl,(unhide M).kept⟩
theorem bCl_a (s:Lo) (ln:Value) (b:Nat) (w:World) (h:Blk w b 108 (s.C ln)) (hs:s.Ok) (h3:s.ow= -1):Calls Try.prog 104 #[P0 b] w (LR b ln w (s.setPa s.hn true).needless):=by
 have M:=hide (Mm.one h)
 have HS:=hide hs
 have hh:=hs.hn
 clear h hs
 go_enter Try.func104,Try.ntmps104
 go_wp2_with fail
 refine wp_region_any mixed (wpAny_gx 10 rfl (by kernel_rfl) [some (P0 b),some (P0 b),some (P0 b),some (.pointer (some ⟨b,28,none⟩)),some (.pointer (some ⟨b,28,none⟩)),some (.int .i64 s.hn),some (P0 b),some (.pointer (some ⟨b,19,none⟩)),some (.pointer (some ⟨b,19+s.hn,none⟩)),none] rfl (by kernel_rfl) (fun l vs W=>(SD1 [b] w (fun d=> [(b,108,Lo.C { s with pa:=cond d (upd s.pa s.hn true) s.pa } ln)]) 9) (fun i=>l.getD i false) vs W) ((unhide M).drew) ?_ ?_)
 · intro ix o' hi ho a' w2 l vs hls hlf hJ hout hin hdep hnot
   match ix,ho with
   | 0,ho=>
     cases ho
     have e0:=ho9 hout 0
     replace e0:a'.eval (.tmp 0)=_:=e0.trans rfl
     exact wp_move (.tmp 0) rfl _ e0 ⟨_,rfl,told_of rfl,keepG [9] SD1.loc (by omega) (by decide) hJ⟩
   | 1,ho=>
     cases ho
     have e0:=ho9 hout 0
     replace e0:a'.eval (.tmp 0)=_:=e0.trans rfl
     exact wp_move (.tmp 0) rfl _ e0 ⟨_,rfl,told_of rfl,keepG [9] SD1.loc (by omega) (by decide) hJ⟩
   | 2,ho=>
     cases ho
     exact o_nil (.tmp 4) rfl _ (hx9 (hi9 hin 1 4) rfl) ⟨_,rfl,told_of rfl,keepG [9] SD1.loc (by omega) (by decide) hJ⟩
   | 3,ho=>
     cases ho
     exact o_fld75_7 (.tmp 5) rfl b (0) (28) rfl (hx9 (hi9 hin 2 5) rfl) ⟨_,rfl,told_of rfl,keepG [9] SD1.loc (by omega) (by decide) hJ⟩
   | 4,ho=>
     cases ho
     exact o_fld41_0 (.tmp 6) rfl b (28) (28) rfl (hx9 (hi9 hin 3 6) rfl) ⟨_,rfl,told_of rfl,keepG [9] SD1.loc (by omega) (by decide) hJ⟩
   | 5,ho=>
     cases ho
     exact o_load3 (.tmp 7) rfl _ _ (hx9 (hi9 hin 4 7) rfl) (fits_cell (Mm.at hJ 0 _ rfl) 28 _ rfl) ⟨_,rfl,told_of rfl,keepG [9] SD1.loc (by omega) (by decide) hJ⟩
   | 6,ho=>
     cases ho
     exact o_nil (.tmp 3) rfl _ (hx9 (hi9 hin 0 3) rfl) ⟨_,rfl,told_of rfl,keepG [9] SD1.loc (by omega) (by decide) hJ⟩
   | 7,ho=>
     cases ho
     exact o_fld75_5 (.tmp 9) rfl b (0) (19) rfl (hx9 (hi9 hin 6 9) rfl) ⟨_,rfl,told_of rfl,keepG [9] SD1.loc (by omega) (by decide) hJ⟩
   | 8,ho=>
     cases ho
     exact o_idx73 (.tmp 10) (.tmp 8) rfl b (19) s.hn (19+s.hn) (hh) rfl (hx9 (hi9 hin 7 10) rfl) (hx9 (hi9 hin 5 8) rfl) ⟨_,rfl,told_of rfl,keepG [9] SD1.loc (by omega) (by decide) hJ⟩
   | 9,ho=>
     cases ho
     exact o_st1 size4 (.tmp 11) _ rfl rfl b (19+s.hn) 0 (.bool true) ⟨rfl,rfl⟩ (hx9 (hi9 hin 8 11) rfl) rfl (SD1.no hJ hlf) rfl (by show 19+s.hn<40;omega) (Lo.pa_set _ ln s.hn hh true) (fun W hM=>⟨undef,rfl,told_no rfl,nextG (by omega) hM⟩)
 intro l_ vs4 V4 hl hJ htold
 have t0:vs4 0=P0 b:=told_is _ (htold 0 (by decide)) rfl
 have t1:vs4 1=P0 b:=told_is _ (htold 1 (by decide)) rfl
 have t2:vs4 2=P0 b:=told_is _ (htold 2 (by decide)) rfl
 have t3:vs4 3= .pointer (some ⟨b,28,none⟩):=told_is _ (htold 3 (by decide)) rfl
 have t4:vs4 4= .pointer (some ⟨b,28,none⟩):=told_is _ (htold 4 (by decide)) rfl
 have t5:vs4 5= .int .i64 s.hn:=told_is _ (htold 5 (by decide)) rfl
 have t6:vs4 6=P0 b:=told_is _ (htold 6 (by decide)) rfl
 have t7:vs4 7= .pointer (some ⟨b,19,none⟩):=told_is _ (htold 7 (by decide)) rfl
 have t8:vs4 8= .pointer (some ⟨b,19+s.hn,none⟩):=told_is _ (htold 8 (by decide)) rfl
 rw [show (List.range 10).map vs4= [vs4 0,vs4 1,vs4 2,vs4 3,vs4 4,vs4 5,vs4 6,vs4 7,vs4 8,vs4 9] from rfl]
 simp only [t0,t1,t2,t3,t4,t5,t6,t7,t8,putAll,Act.put,List.setIfInBounds_toArray,List.set_cons_succ,List.set_cons_zero]
 clear t0 t1 t2 t3 t4 t5 t6 t7 t8 htold
 have hM4:Mm [b] w V4 ([(b,108,(s.setPa s.hn true).C ln)]):=SD1.yes hJ (hl 9 (by decide))
 replace M:Hid (Mm [b] w V4 [(b,108,(s.setPa s.hn true).C ln)]):=hide hM4
 clear hM4 hJ hl
 have c2:V4.cell? ⟨b,2,none⟩=some (.int .i64 (-1)):=by rw [← h3];exact fits_cell ((unhide M).at 0 _ rfl) 2 _ rfl
 go_wp2_with (first |(go_at_call 85;refine(needless54 (s.setPa s.hn true) ln b _ ((unhide M).at 0 _ rfl) (setPa_ok (unhide HS) _ _)).mono ?_;rintro e W11 ⟨xv,rfl,N11,B11,K11⟩;have HO:Hid _:=hide (N11.elder (w:=w) (unhide M).kept.size);replace M:Hid (Mm [b] w W11 [(b,108,(s.setPa s.hn true).needless.1.C ln)]):=hide ((unhide M).mut 0 rfl K11 B11);clear N11 B11 K11;clear c2;refine Stp.go ?_))
 constructor
 go_wp2_with fail
 go_ret
 exact⟨xv,rfl,unhide HO,(unhide M).at 0 _ rfl,(unhide M).kept⟩
theorem bCl_b (s:Lo) (ln:Value) (b:Nat) (w:World) (h:Blk w b 108 (s.C ln)) (hs:s.Ok) (h3:¬s.ow= -1):Calls Try.prog 104 #[P0 b] w (LR b ln w ((s.setPa s.hn true),[⟨5,s.ow,s.op,0,0,0⟩])):=by
 have M:=hide (Mm.one h)
 have HS:=hide hs
 have hh:=hs.hn
 clear h hs
 have h3a:decide (s.ow= -1)=false:=nef_a h3
 have h3b:(s.ow == -1)=false:=nef_b h3
 have h3c:(s.ow != -1)=true:=nef_c h3
 go_enter Try.func104,Try.ntmps104
 go_wp2_with fail
 refine wp_region_any mixed (wpAny_gx 10 rfl (by kernel_rfl) [some (P0 b),some (P0 b),some (P0 b),some (.pointer (some ⟨b,28,none⟩)),some (.pointer (some ⟨b,28,none⟩)),some (.int .i64 s.hn),some (P0 b),some (.pointer (some ⟨b,19,none⟩)),some (.pointer (some ⟨b,19+s.hn,none⟩)),none] rfl (by kernel_rfl) (fun l vs W=>(SD1 [b] w (fun d=> [(b,108,Lo.C { s with pa:=cond d (upd s.pa s.hn true) s.pa } ln)]) 9) (fun i=>l.getD i false) vs W) ((unhide M).drew) ?_ ?_)
 · intro ix o' hi ho a' w2 l vs hls hlf hJ hout hin hdep hnot
   match ix,ho with
   | 0,ho=>
     cases ho
     have e0:=ho9 hout 0
     replace e0:a'.eval (.tmp 0)=_:=e0.trans rfl
     exact wp_move (.tmp 0) rfl _ e0 ⟨_,rfl,told_of rfl,keepG [9] SD1.loc (by omega) (by decide) hJ⟩
   | 1,ho=>
     cases ho
     have e0:=ho9 hout 0
     replace e0:a'.eval (.tmp 0)=_:=e0.trans rfl
     exact wp_move (.tmp 0) rfl _ e0 ⟨_,rfl,told_of rfl,keepG [9] SD1.loc (by omega) (by decide) hJ⟩
   | 2,ho=>
     cases ho
     exact o_nil (.tmp 4) rfl _ (hx9 (hi9 hin 1 4) rfl) ⟨_,rfl,told_of rfl,keepG [9] SD1.loc (by omega) (by decide) hJ⟩
   | 3,ho=>
     cases ho
     exact o_fld75_7 (.tmp 5) rfl b (0) (28) rfl (hx9 (hi9 hin 2 5) rfl) ⟨_,rfl,told_of rfl,keepG [9] SD1.loc (by omega) (by decide) hJ⟩
   | 4,ho=>
     cases ho
     exact o_fld41_0 (.tmp 6) rfl b (28) (28) rfl (hx9 (hi9 hin 3 6) rfl) ⟨_,rfl,told_of rfl,keepG [9] SD1.loc (by omega) (by decide) hJ⟩
   | 5,ho=>
     cases ho
     exact o_load3 (.tmp 7) rfl _ _ (hx9 (hi9 hin 4 7) rfl) (fits_cell (Mm.at hJ 0 _ rfl) 28 _ rfl) ⟨_,rfl,told_of rfl,keepG [9] SD1.loc (by omega) (by decide) hJ⟩
   | 6,ho=>
     cases ho
     exact o_nil (.tmp 3) rfl _ (hx9 (hi9 hin 0 3) rfl) ⟨_,rfl,told_of rfl,keepG [9] SD1.loc (by omega) (by decide) hJ⟩
   | 7,ho=>
     cases ho
     exact o_fld75_5 (.tmp 9) rfl b (0) (19) rfl (hx9 (hi9 hin 6 9) rfl) ⟨_,rfl,told_of rfl,keepG [9] SD1.loc (by omega) (by decide) hJ⟩
   | 8,ho=>
     cases ho
     exact o_idx73 (.tmp 10) (.tmp 8) rfl b (19) s.hn (19+s.hn) (hh) rfl (hx9 (hi9 hin 7 10) rfl) (hx9 (hi9 hin 5 8) rfl) ⟨_,rfl,told_of rfl,keepG [9] SD1.loc (by omega) (by decide) hJ⟩
   | 9,ho=>
     cases ho
     exact o_st1 size4 (.tmp 11) _ rfl rfl b (19+s.hn) 0 (.bool true) ⟨rfl,rfl⟩ (hx9 (hi9 hin 8 11) rfl) rfl (SD1.no hJ hlf) rfl (by show 19+s.hn<40;omega) (Lo.pa_set _ ln s.hn hh true) (fun W hM=>⟨undef,rfl,told_no rfl,nextG (by omega) hM⟩)
 intro l_ vs4 V4 hl hJ htold
 have t0:vs4 0=P0 b:=told_is _ (htold 0 (by decide)) rfl
 have t1:vs4 1=P0 b:=told_is _ (htold 1 (by decide)) rfl
 have t2:vs4 2=P0 b:=told_is _ (htold 2 (by decide)) rfl
 have t3:vs4 3= .pointer (some ⟨b,28,none⟩):=told_is _ (htold 3 (by decide)) rfl
 have t4:vs4 4= .pointer (some ⟨b,28,none⟩):=told_is _ (htold 4 (by decide)) rfl
 have t5:vs4 5= .int .i64 s.hn:=told_is _ (htold 5 (by decide)) rfl
 have t6:vs4 6=P0 b:=told_is _ (htold 6 (by decide)) rfl
 have t7:vs4 7= .pointer (some ⟨b,19,none⟩):=told_is _ (htold 7 (by decide)) rfl
 have t8:vs4 8= .pointer (some ⟨b,19+s.hn,none⟩):=told_is _ (htold 8 (by decide)) rfl
 rw [show (List.range 10).map vs4= [vs4 0,vs4 1,vs4 2,vs4 3,vs4 4,vs4 5,vs4 6,vs4 7,vs4 8,vs4 9] from rfl]
 simp only [t0,t1,t2,t3,t4,t5,t6,t7,t8,putAll,Act.put,List.setIfInBounds_toArray,List.set_cons_succ,List.set_cons_zero]
 clear t0 t1 t2 t3 t4 t5 t6 t7 t8 htold
 have hM4:Mm [b] w V4 ([(b,108,(s.setPa s.hn true).C ln)]):=SD1.yes hJ (hl 9 (by decide))
 replace M:Hid (Mm [b] w V4 [(b,108,(s.setPa s.hn true).C ln)]):=hide hM4
 clear hM4 hJ hl
 have c2:V4.cell? ⟨b,2,none⟩=some (.int .i64 s.ow):=fits_cell ((unhide M).at 0 _ rfl) 2 _ rfl
 go_wp2_with fail
 clear c2
 refine wp_region_any mixed (wpAny_gx 11 rfl (by kernel_rfl) [some (P0 b),some (P0 b),some (.pointer (some ⟨b,2,none⟩)),some (.int .i64 s.ow),some (P0 b),some (P0 b),some (.pointer (some ⟨b,30,none⟩)),some (.int .i64 s.op),some (aggV (Od.C ⟨5,s.ow,s.op,0,0,0⟩)),none,none] rfl (by kernel_rfl) (fun l vs W=>(SN [b] w [(b,108,(s.setPa s.hn true).C ln)] 74 (Od.C ⟨5,s.ow,s.op,0,0,0⟩) 9 10) (fun i=>l.getD i false) vs W) (⟨fun _=>(unhide M).drew,(fun h=>by cases h),fun h=>by cases h⟩) ?_ ?_)
 · intro ix o' hi ho a' w2 l vs hls hlf hJ hout hin hdep hnot
   match ix,ho with
   | 0,ho=>
     cases ho
     have e0:=ho9 hout 0
     replace e0:a'.eval (.tmp 0)=_:=e0.trans rfl
     exact wp_move (.tmp 0) rfl _ e0 ⟨_,rfl,told_of rfl,keepG [9,10] SN.loc (by omega) (by decide) hJ⟩
   | 1,ho=>
     cases ho
     exact o_nil (.tmp 19) rfl _ (hx9 (hi9 hin 0 19) rfl) ⟨_,rfl,told_of rfl,keepG [9,10] SN.loc (by omega) (by decide) hJ⟩
   | 2,ho=>
     cases ho
     exact o_fld75_2 (.tmp 20) rfl b (0) (2) rfl (hx9 (hi9 hin 1 20) rfl) ⟨_,rfl,told_of rfl,keepG [9,10] SN.loc (by omega) (by decide) hJ⟩
   | 3,ho=>
     cases ho
     exact o_load3 (.tmp 21) rfl _ _ (hx9 (hi9 hin 2 21) rfl) (fits_cell (SN.at hJ 0 _ rfl) 2 _ rfl) ⟨_,rfl,told_of rfl,keepG [9,10] SN.loc (by omega) (by decide) hJ⟩
   | 4,ho=>
     cases ho
     have e0:=ho9 hout 0
     replace e0:a'.eval (.tmp 0)=_:=e0.trans rfl
     exact wp_move (.tmp 0) rfl _ e0 ⟨_,rfl,told_of rfl,keepG [9,10] SN.loc (by omega) (by decide) hJ⟩
   | 5,ho=>
     cases ho
     exact o_nil (.tmp 23) rfl _ (hx9 (hi9 hin 4 23) rfl) ⟨_,rfl,told_of rfl,keepG [9,10] SN.loc (by omega) (by decide) hJ⟩
   | 6,ho=>
     cases ho
     exact o_fld75_8 (.tmp 24) rfl b (0) (30) rfl (hx9 (hi9 hin 5 24) rfl) ⟨_,rfl,told_of rfl,keepG [9,10] SN.loc (by omega) (by decide) hJ⟩
   | 7,ho=>
     cases ho
     exact o_load2 (.tmp 25) rfl _ _ (hx9 (hi9 hin 6 25) rfl) (fits_cell (SN.at hJ 0 _ rfl) 30 _ rfl) ⟨_,rfl,told_of rfl,keepG [9,10] SN.loc (by omega) (by decide) hJ⟩
   | 8,ho=>
     cases ho
     exact o_boc (.const (.int .i64 5)) (.tmp 22) (.tmp 26) rfl _ _ _ rfl (hx9 (hi9 hin 3 22) rfl) (hx9 (hi9 hin 7 26) rfl) ⟨_,rfl,told_of rfl,keepG [9,10] SN.loc (by omega) (by decide) hJ⟩
   | 9,ho=>
     cases ho
     have e0:a'.eval (.tmp 27)=aggV (Od.C ⟨5,s.ow,s.op,0,0,0⟩):=hx9 (hi9 hin 8 27) rfl
     refine o_bs28 (.tmp 27) rfl _ e0 (fun W g h1 h2 h3=> ?_)
     exact⟨_,rfl,told_no rfl,nextG (by omega) (SN.make hJ hlf (ho9 hnot 10) (by decide) h1 h2 h3)⟩
   | 10,ho=>
     cases ho
     have e0:a'.eval (.tmp 28)=vs 9:=(hi9 hin 9 28).1
     exact wp_assignV (.tmp 28) rfl _ e0 ⟨_,rfl,told_no rfl,nextG (by omega) (SN.give hJ (ho9 hdep 9) (by decide))⟩
 intro l_ vs5 V5 hl hJ htold
 have t0:vs5 0=P0 b:=told_is _ (htold 0 (by decide)) rfl
 have t1:vs5 1=P0 b:=told_is _ (htold 1 (by decide)) rfl
 have t2:vs5 2= .pointer (some ⟨b,2,none⟩):=told_is _ (htold 2 (by decide)) rfl
 have t3:vs5 3= .int .i64 s.ow:=told_is _ (htold 3 (by decide)) rfl
 have t4:vs5 4=P0 b:=told_is _ (htold 4 (by decide)) rfl
 have t5:vs5 5=P0 b:=told_is _ (htold 5 (by decide)) rfl
 have t6:vs5 6= .pointer (some ⟨b,30,none⟩):=told_is _ (htold 6 (by decide)) rfl
 have t7:vs5 7= .int .i64 s.op:=told_is _ (htold 7 (by decide)) rfl
 have t8:vs5 8=aggV (Od.C ⟨5,s.ow,s.op,0,0,0⟩):=told_is _ (htold 8 (by decide)) rfl
 rw [show (List.range 11).map vs5= [vs5 0,vs5 1,vs5 2,vs5 3,vs5 4,vs5 5,vs5 6,vs5 7,vs5 8,vs5 9,vs5 10] from rfl]
 simp only [t0,t1,t2,t3,t4,t5,t6,t7,t8,putAll,Act.put,List.setIfInBounds_toArray,List.set_cons_succ,List.set_cons_zero]
 clear t0 t1 t2 t3 t4 t5 t6 t7 t8 htold
 obtain⟨_,h2,h3⟩:=hJ
 obtain⟨g,eg,hg,hM⟩:=h2 (hl 9 (by decide))
 have e6:=h3 (hl 10 (by decide))
 rw [eg] at e6
 rw [e6,eg]
 have HM:=hide hM
 have HG:=hide hg
 clear h2 h3 hM hg e6 eg hl
 go_wp2_with fail
 go_ret
 exact⟨_,rfl,Ou.made ((unhide HM).at 1 _ rfl) (unhide HG),(unhide HM).at 0 _ rfl,(unhide HM).kept⟩
theorem bCl80 (s:Lo) (ln:Value) (b:Nat) (w:World) (h:Blk w b 108 (s.C ln)) (hs:s.Ok):Calls Try.prog 104 #[P0 b] w (LR b ln w s.bCl):=by
 unfold Lo.bCl
 by_cases h3:s.ow= -1
 · rw [if_pos h3];exact bCl_a s ln b w h hs h3
 · rw [if_neg h3];exact bCl_b s ln b w h hs h3
theorem anew_a (s:Lo) (ln:Value) (b:Nat) (w:World) (h:Blk w b 108 (s.C ln)) (hs:s.Ok) (ho:0≤s.op∧s.op≤1000000) (h3:s.hk=1):Calls Try.prog 84 #[P0 b] w (LR b ln w s.opUp.handOn):=by
 have M:=hide (Mm.one h)
 have HS:=hide hs
 obtain⟨o1,o2⟩:=ho
 have c30:=fits_cell h 30 _ rfl
 have H3:=hide h3
 clear h3
 clear h hs
 go_enter Try.func84,Try.ntmps84
 go_wp2_with (first |(refine wpSt1 size2 rfl (.tmp 9) (.tmp 7) rfl rfl b (30) 0 (.int .i64 (s.op+1)) (⟨rfl,rfl⟩) rfl rfl (unhide M) rfl (show 30+1≤_ from Nat.le_of_ble_eq_true rfl) (rfl) ?_;intro W1 N1;replace M:Hid (Mm [b] w W1 [(b,108,s.opUp.C ln)]):=hide N1;clear N1;clear c30;have c29:W1.cell? ⟨b,29,none⟩=some (.int .i64 1):=(by rw [← unhide H3];exact fits_cell ((unhide M).at 0 _ rfl) 29 _ rfl);refine Stp.go ?_))
 constructor
 go_wp2_with (first |(go_at_call 95;refine(handOn68 s.opUp ln b _ ((unhide M).at 0 _ rfl) (opUp_ok (unhide HS))).mono ?_;rintro e W2 ⟨xv,rfl,N2,B2,K2⟩;have HO:Hid _:=hide (N2.elder (w:=w) (unhide M).kept.size);replace M:Hid (Mm [b] w W2 [(b,108,s.opUp.handOn.1.C ln)]):=hide ((unhide M).mut 0 rfl K2 B2);clear N2 B2 K2;clear c29;refine Stp.go ?_))
 constructor
 go_wp2_with fail
 go_ret
 exact⟨xv,rfl,unhide HO,(unhide M).at 0 _ rfl,(unhide M).kept⟩
theorem anew_b (s:Lo) (ln:Value) (b:Nat) (w:World) (h:Blk w b 108 (s.C ln)) (hs:s.Ok) (ho:0≤s.op∧s.op≤1000000) (h3:¬s.hk=1):Calls Try.prog 84 #[P0 b] w (LR b ln w s.opUp.handOver):=by
 have M:=hide (Mm.one h)
 have HS:=hide hs
 obtain⟨o1,o2⟩:=ho
 have c30:=fits_cell h 30 _ rfl
 have h3a:decide (s.hk=1)=false:=nef_a h3
 have h3b:(s.hk == 1)=false:=nef_b h3
 have h3c:(s.hk !=1)=true:=nef_c h3
 clear h hs
 go_enter Try.func84,Try.ntmps84
 go_wp2_with (first |(refine wpSt1 size2 rfl (.tmp 9) (.tmp 7) rfl rfl b (30) 0 (.int .i64 (s.op+1)) (⟨rfl,rfl⟩) rfl rfl (unhide M) rfl (show 30+1≤_ from Nat.le_of_ble_eq_true rfl) (rfl) ?_;intro W1 N1;replace M:Hid (Mm [b] w W1 [(b,108,s.opUp.C ln)]):=hide N1;clear N1;clear c30;have c29:W1.cell? ⟨b,29,none⟩=some (.int .i64 s.hk):=fits_cell ((unhide M).at 0 _ rfl) 29 _ rfl;refine Stp.go ?_))
 constructor
 go_wp2_with (first |(go_at_call 93;refine(handOver67 s.opUp ln b _ ((unhide M).at 0 _ rfl) (opUp_ok (unhide HS))).mono ?_;rintro e W2 ⟨xv,rfl,N2,B2,K2⟩;have HO:Hid _:=hide (N2.elder (w:=w) (unhide M).kept.size);replace M:Hid (Mm [b] w W2 [(b,108,s.opUp.handOver.1.C ln)]):=hide ((unhide M).mut 0 rfl K2 B2);clear N2 B2 K2;clear c29;refine Stp.go ?_))
 constructor
 go_wp2_with fail
 go_ret
 exact⟨xv,rfl,unhide HO,(unhide M).at 0 _ rfl,(unhide M).kept⟩
theorem anew53 (s:Lo) (ln:Value) (b:Nat) (w:World) (h:Blk w b 108 (s.C ln)) (hs:s.Ok) (ho:0≤s.op∧s.op≤1000000):Calls Try.prog 84 #[P0 b] w (LR b ln w s.anew):=by
 unfold Lo.anew
 by_cases h3:s.hk=1
 · rw [if_pos h3];exact anew_a s ln b w h hs ho h3
 · rw [if_neg h3];exact anew_b s ln b w h hs ho h3
end Go.Proofs.Ytbigongmlpoahaa
