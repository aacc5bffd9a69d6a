import Derived.Test.YtbigongmlpoahaaUKx
import Derived.Test.YtbigongmlpoahaaURc
namespace Go.Proofs.Ytbigongmlpoahaa
set_option maxHeartbeats 2000000
set_option maxRecDepth 100000
set_option linter.unusedSimpArgs false
open Go.RowKit
theorem cg47 (vs:Array Value) (w:World):(callFunc 26 vs).run Try.prog w= .ok (.enter 26 vs) w:=by kernel_rfl
@[reducible] def S4 (w:World) (b b3:Nat) (s:Rk) (ln:Value) (L:List Wi) (x:Wi) (d:Nat→Bool) (vs:Nat→Value) (W:World):Prop:=
 (d 6=false→d 7=false→Mm [b] w W [(b,80,s.C ln),(b3,38,x.C)])∧(d 6=true→d 7=false→∃g,vs 6= .slice (some ⟨g,0,none⟩) 1 1∧Mm [b] w W [(b,80,s.C ln),(b3,38,x.C),(g,38,x.C)])∧
 (d 7=true→Ap w W b ln (vs 7) L x∧(d 10=false→Blk W b 80 (s.C ln))∧(d 10=true→Blk W b 80 (s.C (vs 7))))
theorem S4.loc {w:World} {b b3:Nat} {s:Rk} {ln:Value} {L:List Wi} {x:Wi} :∀d d' vs vs' W,(∀i∈ [6,7,10],d i=d' i∧vs i=vs' i)→S4 w b b3 s ln L x d vs W→S4 w b b3 s ln L x d' vs' W:=by
 intro d d' vs vs' W H h
 obtain⟨e0,e1⟩:=H 6 (by simp)
 obtain⟨e2,e3⟩:=H 7 (by simp)
 obtain⟨e4,e5⟩:=H 10 (by simp)
 unfold S4 at h⊢
 rw [← e0,← e1,← e2,← e3,← e4]
 exact h
theorem S4.at {w W:World} {b b3:Nat} {s:Rk} {ln:Value} {L:List Wi} {x:Wi} {d:Nat→Bool} {vs:Nat→Value} (h:S4 w b b3 s ln L x d vs W) (h7:d 7=false):Blk W b 80 (s.C ln)∧Blk W b3 38 x.C:=by
 cases hd:d 6 with
 | false=>exact ⟨(h.1 hd h7).at 0 _ rfl,(h.1 hd h7).at 1 _ rfl⟩
 | true=>obtain ⟨g,_,hM⟩:=h.2.1 hd h7;exact⟨hM.at 0 _ rfl,hM.at 1 _ rfl⟩
theorem S4.make {w W W':World} {b b3 g:Nat} {s:Rk} {ln:Value} {L:List Wi} {x:Wi} {d:Nat→Bool} {vs:Nat→Value} (h:S4 w b b3 s ln L x d vs W) (h6:d 6=false) (h7:d 7=false) (hg:g=W.heap.size) (hB:Blk W' g 38 x.C) (hK:Kept [] W W'):S4 w b b3 s ln L x (fun i=>if i=6 then true else d i) (fun i=>if i=6 then .slice (some ⟨g,0,none⟩) 1 1 else vs i) W':=by
 refine⟨fun h9 _=>by simp at h9,fun _ _=>⟨g,by simp,(h.1 h6 h7).new hg hB hK⟩,fun h9=> ?_⟩
 simp [h7] at h9
theorem S4.app {w W W':World} {b b3:Nat} {s:Rk} {ln v:Value} {L:List Wi} {x:Wi} {d:Nat→Bool} {vs:Nat→Value} (h:S4 w b b3 s ln L x d vs W) (hB0:Blk w b 80 (s.C ln)) (hW:Ws w ln L) (h6:d 6=true) (h7:d 7=false) (h10:d 10=false) (hR:Rw W' 38 2 v (L.length+1) (wsC L++x.C)) (hK:Kept (spare ln) W W') (ho:∀k,v.ownBlock=some k→ln.ownBlock=some k∨W.heap.size≤k) (hs:∀k∈spare v,k∈spare ln∨W.heap.size≤k):
   S4 w b b3 s ln L x (fun i=>if i=7 then true else d i) (fun i=>if i=7 then v else vs i) W':=by
 obtain⟨g,_,hM⟩:=h.2.1 h6 h7
 have hsz:=hM.kept.size
 refine⟨fun _ h9=>by simp at h9,fun _ h9=>by simp at h9,fun _=>⟨⟨?_,?_,?_,?_⟩,fun _=> ?_,fun h9=>by simp [h10] at h9⟩⟩
 · show Rw _ _ _ _ _ _
   rw [wsC_app,List.length_append]
   simpa [wsC] using hR
 · exact(hM.kept.mono (by simp)).trans (hK.mono (by simp +contextual))
 · intro k hk
   simp at hk
   rcases ho k hk with h1 | h1
   · exact .inl h1
   · exact .inr (by omega)
 · intro k hk
   simp at hk
   rcases hs k hk with h1 | h1
   · exact .inl h1
   · exact .inr (by omega)
 · exact(hM.at 0 _ rfl).kept hK (fun hb=>Rw.ne hW hB0 (by decide) b (spare_own hb) (by simp))
theorem S4.store {w W W':World} {b b3:Nat} {s:Rk} {ln:Value} {L:List Wi} {x:Wi} {d:Nat→Bool} {vs:Nat→Value} {u:Value} (h:S4 w b b3 s ln L x d vs W) (h7:d 7=true) (h10:d 10=false) (hB:Blk W' b 80 (s.C (vs 7))) (hK:Kept [b] W W'):S4 w b b3 s ln L x (fun i=>if i=10 then true else d i) (fun i=>if i=10 then u else vs i) W':=by
 obtain⟨hA,hb,_⟩:=h.2.2 h7
 refine⟨fun _ h9=>by simp [h7] at h9,fun _ h9=>by simp [h7] at h9,fun _=>⟨⟨?_,?_,?_⟩,fun h9=>by simp at h9,fun _=>by simpa using hB⟩⟩
 · exact hA.row.kept hK (Rw.ne hA.row (hb h10) (by decide))
 · exact hA.kept.trans (hK.mono (by simp))
 · exact hA.grw
def rwishP (r:Rk) (L:List Wi) (x:Wi):Rk×List Wi×List Od:=if (r.wt≠0∧r.wi=x)∨x∈L then (r,L,[]) else if r.wt≠0 then (r,L++ [x],[]) else rdone r (L++ [x])
theorem RC.none {b:Nat} {ln:Value} {w w':World} {s:Rk} {L:List Wi} (hB:Blk w b 80 (s.C ln)) (hW:Ws w ln L) (hK:Kept [b] w w') (hB':Blk w' b 80 (s.C ln)):RC b ln w (s,L,[]) (.returned (.slice none 0 0)) w':=
 ⟨_,ln,rfl,New.nil _ _ _ _,hB',hW.kept hK (Rw.ne hW hB (by decide)),hK.mono (by simp),Grw.refl _ _⟩
theorem rwish_b (r:Rk) (ln:Value) (b:Nat) (L:List Wi) (m k:Int) (w:World) (h:Blk w b 80 (r.C ln)) (hW:Ws w ln L) (hm:isN m=false):Calls Try.prog 28 #[P0 b,aggV [.int .i64 m,.int .i64 k]] w (RC b ln w (r,L,[])):=by
 have M:=hide (Mm.one h)
 have HB0:=hide h
 have HW:=hide hW
 have P47:∀W,Hid (Calls Try.prog 26 #[.int .i64 m] W fun e w'=>e= .returned (.bool false)∧w'=W):=fun W=>hide (by have h9:=in47 m W;rw [hm] at h9;exact h9)
 clear h hW hm
 go_enter Try.func28,Try.ntmps28
 go_wp2_with (first |(refine wpBoxV rfl (.tmp 1) rfl [.int .i64 m,.int .i64 k] rfl ?_;intro W1 b3 e1 B1 K1;replace M:=hide ((unhide M).new e1 B1 K1);clear e1 B1 K1;refine Stp.go ?_))
 constructor
 go_wp2_with fail
 refine wp_region_any mixed (wpAny_tq 19 rfl (by kernel_rfl) [some (P0 b3),some (.int .i64 m),some (.bool false),some (.bool true),some (.bool true),none,none,none,none,none,none,none,none,none,none,none,none,none,some (.bool true)] rfl (by kernel_rfl) (by kernel_rfl) ?_ ?_)
 · intro i o' hi hsk ho a' w2 hout hin hk2
   replace hk2:Kept [] W1 w2:=ud hk2
   match i,ho,hsk with
   | 0,ho,hsk=>
     cases ho
     exact o_fld41_0 (.tmp 3) rfl b3 (0) (0) rfl ((ho9 hout 3).trans rfl) (tE rfl)
   | 1,ho,hsk=>
     cases ho
     exact o_load3 (.tmp 6) rfl _ _ (is_tq (hi9 hin 0 6) rfl) (fits_cell (((unhide M).step hk2).at 1 _ rfl) 0 _ rfl) (tE rfl)
   | 2,ho,hsk=>
     cases ho
     have e0:a'.eval (.tmp 7)= .int .i64 m:=is_tq (hi9 hin 1 7) rfl
     refine wp_callF 26 _ _ rfl #[.int .i64 m] (by simp [e0]) (cg47 _ _) ((unhide (P47 _)).mono ?_)
     rintro e w3 ⟨rfl,rfl⟩
     exact⟨_,rfl,_,rfl,tq_is _ _ _ _ rfl,Kept.refl _ _,fun _ _ _ _ _=>trivial⟩
   | 3,ho,hsk=>
     cases ho
     exact o_not (.tmp 8) rfl (false) (is_tq (hi9 hin 2 8) rfl) (tE rfl)
   | 4,ho,hsk=>
     cases ho
     exact wp_move (.tmp 9) rfl _ (is_tq (hi9 hin 3 9) rfl) (tE rfl)
   | 5,ho,hsk=>
     cases hsk
   | 6,ho,hsk=>
     cases hsk
   | 7,ho,hsk=>
     cases hsk
   | 8,ho,hsk=>
     cases hsk
   | 9,ho,hsk=>
     cases hsk
   | 10,ho,hsk=>
     cases hsk
   | 11,ho,hsk=>
     cases hsk
   | 12,ho,hsk=>
     cases hsk
   | 13,ho,hsk=>
     cases hsk
   | 14,ho,hsk=>
     cases hsk
   | 15,ho,hsk=>
     cases hsk
   | 16,ho,hsk=>
     cases hsk
   | 17,ho,hsk=>
     cases hsk
   | 18,ho,hsk=>
     cases ho
     exact o_pickOrT (.tmp 10) (.tmp 23) rfl (is_tq (hi9 hin 4 10) rfl) (tE rfl)
 intro w9 hk9
 replace hk9:Kept [] W1 w9:=ud hk9
 simp only [valsQ,List.map_cons,List.map_nil,Option.getD_some,Option.getD_none,List.take_succ_cons,List.take_zero,putAll,Act.put,List.setIfInBounds_toArray,List.set_cons_succ,List.set_cons_zero]
 refine wpAny_done (by kernel_rfl) ?_ _
 replace M:=hide ((unhide M).step hk9)
 clear hk9
 go_wp2_with fail
 go_ret
 exact RC.none (unhide HB0) (unhide HW) (unhide M).kept ((unhide M).at 0 _ rfl)
theorem rwish_c (r:Rk) (ln:Value) (b:Nat) (L:List Wi) (x:Wi) (w:World) (h:Blk w b 80 (r.C ln)) (hW:Ws w ln L) (hx:x.Ok) (hwt:¬r.wt=0) (hc:r.wi=x):Calls Try.prog 28 #[P0 b,aggV x.C] w (RC b ln w (r,L,[])):=by
 have M:=hide (Mm.one h)
 have HB0:=hide h
 have HW:=hide hW
 have P47:∀W,Hid (Calls Try.prog 26 #[.int .i64 x.n] W fun e w'=>e= .returned (.bool true)∧w'=W):=fun W=>hide (by have h9:=in47 x.n W;rw [show isN (x.n:Int)=true by have:=hx.1;simp [isN];omega] at h9;exact h9)
 have hwd:decide (r.wt=0)=false:=by simpa using hwt
 have HC:Hid (decide (r.wi=x)=true):=by simpa [Hid] using hc
 clear h hW hc hx
 go_enter Try.func28,Try.ntmps28
 go_wp2_with (first |(refine wpBoxV rfl (.tmp 1) rfl x.C rfl ?_;intro W1 b3 e1 B1 K1;replace M:=hide ((unhide M).new e1 B1 K1);clear e1 B1 K1;refine Stp.go ?_))
 constructor
 go_wp2_with fail
 refine wp_region_any mixed (wpAny_tq 19 rfl (by kernel_rfl) [some (P0 b3),some (.int .i64 x.n),some (.bool true),some (.bool false),some (.bool false),some (P0 b),some (P0 b),some (.pointer (some ⟨b,29,none⟩)),some (.int .i64 r.wt),some (.bool true),some (.bool true),some (P0 b),some (P0 b),some (.pointer (some ⟨b,27,none⟩)),some (aggV (Wi.C (Rk.wi r))),some (aggV x.C),some (.bool true),some (.bool true),some (.bool true)] rfl (by kernel_rfl) (by kernel_rfl) ?_ ?_)
 · intro i o' hi hsk ho a' w2 hout hin hk2
   replace hk2:Kept [] W1 w2:=ud hk2
   match i,ho,hsk with
   | 0,ho,hsk=>
     cases ho
     exact o_fld41_0 (.tmp 3) rfl b3 (0) (0) rfl ((ho9 hout 3).trans rfl) (tE rfl)
   | 1,ho,hsk=>
     cases ho
     exact o_load3 (.tmp 6) rfl _ _ (is_tq (hi9 hin 0 6) rfl) (fits_cell (((unhide M).step hk2).at 1 _ rfl) 0 _ rfl) (tE rfl)
   | 2,ho,hsk=>
     cases ho
     have e0:a'.eval (.tmp 7)= .int .i64 x.n:=is_tq (hi9 hin 1 7) rfl
     refine wp_callF 26 _ _ rfl #[.int .i64 x.n] (by simp [e0]) (cg47 _ _) ((unhide (P47 _)).mono ?_)
     rintro e w3 ⟨rfl,rfl⟩
     exact⟨_,rfl,_,rfl,tq_is _ _ _ _ rfl,Kept.refl _ _,fun _ _ _ _ _=>trivial⟩
   | 3,ho,hsk=>
     cases ho
     exact o_not (.tmp 8) rfl (true) (is_tq (hi9 hin 2 8) rfl) (tE rfl)
   | 4,ho,hsk=>
     cases ho
     exact wp_move (.tmp 9) rfl _ (is_tq (hi9 hin 3 9) rfl) (tE rfl)
   | 5,ho,hsk=>
     cases ho
     exact wp_move (.tmp 0) rfl _ ((ho9 hout 0).trans rfl) (tE rfl)
   | 6,ho,hsk=>
     cases ho
     exact o_nil (.tmp 11) rfl _ (is_tq (hi9 hin 5 11) rfl) (tE rfl)
   | 7,ho,hsk=>
     cases ho
     exact o_fld47_7 (.tmp 12) rfl b (0) (29) rfl (is_tq (hi9 hin 6 12) rfl) (tE rfl)
   | 8,ho,hsk=>
     cases ho
     exact o_load3 (.tmp 13) rfl _ _ (is_tq (hi9 hin 7 13) rfl) (fits_cell (((unhide M).step hk2).at 0 _ rfl) 29 _ rfl) (tE rfl)
   | 9,ho,hsk=>
     cases ho
     exact c_neq3 (.tmp 14) (.const (.int .i64 (0))) rfl _ _ (false) (hwd) (is_tq (hi9 hin 8 14) rfl) rfl (tE rfl)
   | 10,ho,hsk=>
     cases ho
     exact wp_move (.tmp 15) rfl _ (is_tq (hi9 hin 9 15) rfl) (tE rfl)
   | 11,ho,hsk=>
     cases ho
     exact wp_move (.tmp 0) rfl _ ((ho9 hout 0).trans rfl) (tE rfl)
   | 12,ho,hsk=>
     cases ho
     exact o_nil (.tmp 17) rfl _ (is_tq (hi9 hin 11 17) rfl) (tE rfl)
   | 13,ho,hsk=>
     cases ho
     exact o_fld47_6 (.tmp 18) rfl b (0) (27) rfl (is_tq (hi9 hin 12 18) rfl) (tE rfl)
   | 14,ho,hsk=>
     cases ho
     exact wp_loadA row41 (.tmp 19) rfl b (27) (is_tq (hi9 hin 13 19) rfl) (Wi.C (Rk.wi r)) rfl (Blk.rhand (((unhide M).step hk2).at 0 _ rfl)) (tE rfl)
   | 15,ho,hsk=>
     cases ho
     exact wp_loadA row41 (.tmp 3) rfl b3 (0) ((ho9 hout 3).trans rfl) (x.C) rfl ((((unhide M).step hk2).at 1 _ rfl).range) (tE rfl)
   | 16,ho,hsk=>
     cases ho
     exact o_eqlA 38 38 guard41 (.tmp 20) (.tmp 21) rfl (Wi.C (Rk.wi r)) (x.C) (is_tq (hi9 hin 14 20) rfl) (is_tq (hi9 hin 15 21) rfl) true ((eqW41 _ _ _).trans (by rw [unhide HC])) (tE rfl)
   | 17,ho,hsk=>
     cases ho
     exact o_pick (.tmp 16) (.tmp 22) rfl _ (is_tq (hi9 hin 10 16) rfl) (is_tq (hi9 hin 16 22) rfl) (tE rfl)
   | 18,ho,hsk=>
     cases ho
     exact o_pickOr0 (.tmp 10) (.tmp 23) rfl _ (is_tq (hi9 hin 4 10) rfl) (is_tq (hi9 hin 17 23) rfl) (tE rfl)
 intro w9 hk9
 replace hk9:Kept [] W1 w9:=ud hk9
 simp only [valsQ,List.map_cons,List.map_nil,Option.getD_some,List.take_succ_cons,List.take_zero,putAll,Act.put,List.setIfInBounds_toArray,List.set_cons_succ,List.set_cons_zero]
 refine wpAny_done (by kernel_rfl) ?_ _
 replace M:=hide ((unhide M).step hk9)
 clear hk9
 go_wp2_with fail
 go_ret
 exact RC.none (unhide HB0) (unhide HW) (unhide M).kept ((unhide M).at 0 _ rfl)
theorem rwish_dp (r:Rk) (ln:Value) (b:Nat) (L:List Wi) (x:Wi) (w:World) (h:Blk w b 80 (r.C ln)) (hW:Ws w ln L) (hx:x.Ok) (hL:L.length≤800) (hwt:r.wt=0) (hd:x∈L):Calls Try.prog 28 #[P0 b,aggV x.C] w (RC b ln w (r,L,[])):=by
 have M:=hide (Mm.one h)
 have HB0:=hide h
 have HW:=hide hW
 have P47:∀W,Hid (Calls Try.prog 26 #[.int .i64 x.n] W fun e w'=>e= .returned (.bool true)∧w'=W):=fun W=>hide (by have h9:=in47 x.n W;rw [show isN (x.n:Int)=true by have:=hx.1;simp [isN];omega] at h9;exact h9)
 have HD:=hide hd
 clear h hW hx hd
 obtain⟨ao,c,hln,_,_⟩:=(unhide HW).sl
 have HLN:=hide hln
 clear hln
 go_enter Try.func28,Try.ntmps28
 go_wp2_with (first |(refine wpBoxV rfl (.tmp 1) rfl x.C rfl ?_;intro W1 b3 e1 B1 K1;replace M:=hide ((unhide M).new e1 B1 K1);clear e1 B1 K1;refine Stp.go ?_))
 constructor
 go_wp2_with fail
 refine wp_region_any mixed (wpAny_tq 19 rfl (by kernel_rfl) [some (P0 b3),some (.int .i64 x.n),some (.bool true),some (.bool false),some (.bool false),some (P0 b),some (P0 b),some (.pointer (some ⟨b,29,none⟩)),some (.int .i64 0),some (.bool false),some (.bool false),none,none,none,none,none,none,some (.bool false),some (.bool false)] rfl (by kernel_rfl) (by kernel_rfl) ?_ ?_)
 · intro i o' hi hsk ho a' w2 hout hin hk2
   replace hk2:Kept [] W1 w2:=ud hk2
   match i,ho,hsk with
   | 0,ho,hsk=>
     cases ho
     exact o_fld41_0 (.tmp 3) rfl b3 (0) (0) rfl ((ho9 hout 3).trans rfl) (tE rfl)
   | 1,ho,hsk=>
     cases ho
     exact o_load3 (.tmp 6) rfl _ _ (is_tq (hi9 hin 0 6) rfl) (fits_cell (((unhide M).step hk2).at 1 _ rfl) 0 _ rfl) (tE rfl)
   | 2,ho,hsk=>
     cases ho
     have e0:a'.eval (.tmp 7)= .int .i64 x.n:=is_tq (hi9 hin 1 7) rfl
     refine wp_callF 26 _ _ rfl #[.int .i64 x.n] (by simp [e0]) (cg47 _ _) ((unhide (P47 _)).mono ?_)
     rintro e w3 ⟨rfl,rfl⟩
     exact⟨_,rfl,_,rfl,tq_is _ _ _ _ rfl,Kept.refl _ _,fun _ _ _ _ _=>trivial⟩
   | 3,ho,hsk=>
     cases ho
     exact o_not (.tmp 8) rfl (true) (is_tq (hi9 hin 2 8) rfl) (tE rfl)
   | 4,ho,hsk=>
     cases ho
     exact wp_move (.tmp 9) rfl _ (is_tq (hi9 hin 3 9) rfl) (tE rfl)
   | 5,ho,hsk=>
     cases ho
     exact wp_move (.tmp 0) rfl _ ((ho9 hout 0).trans rfl) (tE rfl)
   | 6,ho,hsk=>
     cases ho
     exact o_nil (.tmp 11) rfl _ (is_tq (hi9 hin 5 11) rfl) (tE rfl)
   | 7,ho,hsk=>
     cases ho
     exact o_fld47_7 (.tmp 12) rfl b (0) (29) rfl (is_tq (hi9 hin 6 12) rfl) (tE rfl)
   | 8,ho,hsk=>
     cases ho
     exact o_load3 (.tmp 13) rfl _ _ (is_tq (hi9 hin 7 13) rfl) (by have h9:=fits_cell (((unhide M).step hk2).at 0 _ rfl) 29 _ rfl;rw [hwt] at h9;exact h9) (tE rfl)
   | 9,ho,hsk=>
     cases ho
     exact c_neq3 (.tmp 14) (.const (.int .i64 (0))) rfl _ _ (true) (by rfl) (is_tq (hi9 hin 8 14) rfl) rfl (tE rfl)
   | 10,ho,hsk=>
     cases ho
     exact wp_move (.tmp 15) rfl _ (is_tq (hi9 hin 9 15) rfl) (tE rfl)
   | 11,ho,hsk=>
     cases hsk
   | 12,ho,hsk=>
     cases hsk
   | 13,ho,hsk=>
     cases hsk
   | 14,ho,hsk=>
     cases hsk
   | 15,ho,hsk=>
     cases hsk
   | 16,ho,hsk=>
     cases hsk
   | 17,ho,hsk=>
     cases ho
     exact o_pickN (.tmp 16) (.tmp 22) rfl (is_tq (hi9 hin 10 16) rfl) (tE rfl)
   | 18,ho,hsk=>
     cases ho
     exact o_pickOr0 (.tmp 10) (.tmp 23) rfl _ (is_tq (hi9 hin 4 10) rfl) (is_tq (hi9 hin 17 23) rfl) (tE rfl)
 intro w9 hk9
 replace hk9:Kept [] W1 w9:=ud hk9
 simp only [valsQ,List.map_cons,List.map_nil,Option.getD_some,Option.getD_none,List.take_succ_cons,List.take_zero,putAll,Act.put,List.setIfInBounds_toArray,List.set_cons_succ,List.set_cons_zero]
 refine wpAny_done (by kernel_rfl) ?_ _
 replace M:=hide ((unhide M).step hk9)
 clear hk9
 go_wp2_with fail
 go_loopw [5] (fun i wr=>∃j:Nat,j≤L.length∧i= .int .i64 j∧Hid (∀k,k<j→L[k]?≠some x)∧Hid (Mm [b] w wr [(b,80,r.C ln),(b3,38,x.C)])) (fun i _=>L.length-(intOf i).toNat)
 case atStart=>exact ⟨0,by omega,rfl,fun k hk=>by omega,M⟩
 case round=>
   clear M
   obtain⟨j,hj,rfl,HN,M⟩:=hrel
   have c26:wr.cell? ⟨b,26,none⟩=some (.slice ao L.length c):=by rw [← unhide HLN];exact fits_cell ((unhide M).at 0 _ rfl) 26 _ rfl
   by_cases hlt:j<L.length
   · have hjI:(j:Int)<L.length:=by omega
     have hd:decide ((j:Int)<L.length)=true:=by simpa using hjI
     obtain⟨y,hy⟩:∃y,L[j]?=some y:=⟨_,List.getElem?_eq_getElem hlt⟩
     obtain⟨g,off,c',e,hr⟩:=Ws.get ((unhide HW).kept (unhide M).kept (Rw.ne (unhide HW) (unhide HB0) (by decide))) hy
     have hln:=unhide HLN
     rw [hln] at e
     cases e
     subst hln
     have HRr:∀ {W:World},Kept [] wr W→W.rangeAt g (off+j*2) y.C:=fun hk k u hu=>hk.cell (hr k u hu) (by simp)
     have HY:=hide hy
     clear hy
     by_cases hq:y=x
     · have HEQ:Hid (decide (y=x)=true):=by simpa [Hid] using hq
       clear hq
       go_wp2_with fail
       clear c26
       refine wp_region_any mixed (wpAny_tq 9 rfl (by kernel_rfl) [some (P0 b),some (P0 b),some (.pointer (some ⟨b,26,none⟩)),some (.slice (some ⟨g,off,none⟩) L.length c),some (.int .i64 j),some (.pointer (some ⟨g,off+j*2,none⟩)),some (aggV y.C),some (aggV x.C),some (.bool true)] rfl (by kernel_rfl) (by kernel_rfl) ?_ ?_)
       · intro i o' hi hsk ho a' w2 hout hin hk2
         replace hk2:Kept [] wr w2:=ud hk2
         match i,ho,hsk with
         | 0,ho,hsk=>
           cases ho
           exact wp_move (.tmp 0) rfl _ ((ho9 hout 0).trans rfl) (tE rfl)
         | 1,ho,hsk=>
           cases ho
           exact o_nil (.tmp 34) rfl _ (is_tq (hi9 hin 0 34) rfl) (tE rfl)
         | 2,ho,hsk=>
           cases ho
           exact o_fld47_5 (.tmp 35) rfl b (0) (26) rfl (is_tq (hi9 hin 1 35) rfl) (tE rfl)
         | 3,ho,hsk=>
           cases ho
           exact o_load38 (.tmp 36) rfl _ _ (is_tq (hi9 hin 2 36) rfl) (fits_cell (((unhide M).step hk2).at 0 _ rfl) 26 _ rfl) (tE rfl)
         | 4,ho,hsk=>
           cases ho
           exact wp_move (.tmp 5) rfl _ ((ho9 hout 5).trans rfl) (tE rfl)
         | 5,ho,hsk=>
           cases ho
           exact o_idx38n (.tmp 37) (.tmp 38) rfl g off L.length c j hlt (is_tq (hi9 hin 3 37) rfl) (is_tq (hi9 hin 4 38) rfl) (tE rfl)
         | 6,ho,hsk=>
           cases ho
           exact wp_loadA row41 (.tmp 39) rfl g (off+j*2) (is_tq (hi9 hin 5 39) rfl) (y.C) rfl (HRr hk2) (tE rfl)
         | 7,ho,hsk=>
           cases ho
           exact wp_loadA row41 (.tmp 3) rfl b3 (0) ((ho9 hout 3).trans rfl) (x.C) rfl ((((unhide M).step hk2).at 1 _ rfl).range) (tE rfl)
         | 8,ho,hsk=>
           cases ho
           exact o_eqlA 38 38 guard41 (.tmp 40) (.tmp 41) rfl (y.C) (x.C) (is_tq (hi9 hin 6 40) rfl) (is_tq (hi9 hin 7 41) rfl) true ((eqW41 _ _ _).trans (by rw [unhide HEQ])) (tE rfl)
       intro w9 hk9
       replace hk9:Kept [] wr w9:=ud hk9
       simp only [valsQ,List.map_cons,List.map_nil,Option.getD_some,List.take_succ_cons,List.take_zero,putAll,Act.put,List.setIfInBounds_toArray,List.set_cons_succ,List.set_cons_zero]
       refine wpAny_done (by kernel_rfl) ?_ _
       go_wp2_with fail
       go_ret
       have hM:=(unhide M).step hk9
       exact RC.none (unhide HB0) (unhide HW) hM.kept (hM.at 0 _ rfl)
     · have HEQ:Hid (decide (y=x)=false):=by simpa [Hid] using hq
       have HN2:Hid (∀k,k<j+1→L[k]?≠some x):=by
         intro k hk
         by_cases hkj:k=j
         · subst hkj;rw [unhide HY];intro e;cases e;exact hq rfl
         · exact unhide HN k (by omega)
       clear hq
       go_wp2_with fail
       clear c26
       refine wp_region_any mixed (wpAny_tq 9 rfl (by kernel_rfl) [some (P0 b),some (P0 b),some (.pointer (some ⟨b,26,none⟩)),some (.slice (some ⟨g,off,none⟩) L.length c),some (.int .i64 j),some (.pointer (some ⟨g,off+j*2,none⟩)),some (aggV y.C),some (aggV x.C),some (.bool false)] rfl (by kernel_rfl) (by kernel_rfl) ?_ ?_)
       · intro i o' hi hsk ho a' w2 hout hin hk2
         replace hk2:Kept [] wr w2:=ud hk2
         match i,ho,hsk with
         | 0,ho,hsk=>
           cases ho
           exact wp_move (.tmp 0) rfl _ ((ho9 hout 0).trans rfl) (tE rfl)
         | 1,ho,hsk=>
           cases ho
           exact o_nil (.tmp 34) rfl _ (is_tq (hi9 hin 0 34) rfl) (tE rfl)
         | 2,ho,hsk=>
           cases ho
           exact o_fld47_5 (.tmp 35) rfl b (0) (26) rfl (is_tq (hi9 hin 1 35) rfl) (tE rfl)
         | 3,ho,hsk=>
           cases ho
           exact o_load38 (.tmp 36) rfl _ _ (is_tq (hi9 hin 2 36) rfl) (fits_cell (((unhide M).step hk2).at 0 _ rfl) 26 _ rfl) (tE rfl)
         | 4,ho,hsk=>
           cases ho
           exact wp_move (.tmp 5) rfl _ ((ho9 hout 5).trans rfl) (tE rfl)
         | 5,ho,hsk=>
           cases ho
           exact o_idx38n (.tmp 37) (.tmp 38) rfl g off L.length c j hlt (is_tq (hi9 hin 3 37) rfl) (is_tq (hi9 hin 4 38) rfl) (tE rfl)
         | 6,ho,hsk=>
           cases ho
           exact wp_loadA row41 (.tmp 39) rfl g (off+j*2) (is_tq (hi9 hin 5 39) rfl) (y.C) rfl (HRr hk2) (tE rfl)
         | 7,ho,hsk=>
           cases ho
           exact wp_loadA row41 (.tmp 3) rfl b3 (0) ((ho9 hout 3).trans rfl) (x.C) rfl ((((unhide M).step hk2).at 1 _ rfl).range) (tE rfl)
         | 8,ho,hsk=>
           cases ho
           exact o_eqlA 38 38 guard41 (.tmp 40) (.tmp 41) rfl (y.C) (x.C) (is_tq (hi9 hin 6 40) rfl) (is_tq (hi9 hin 7 41) rfl) false ((eqW41 _ _ _).trans (by rw [unhide HEQ])) (tE rfl)
       intro w9 hk9
       replace hk9:Kept [] wr w9:=ud hk9
       simp only [valsQ,List.map_cons,List.map_nil,Option.getD_some,List.take_succ_cons,List.take_zero,putAll,Act.put,List.setIfInBounds_toArray,List.set_cons_succ,List.set_cons_zero]
       refine wpAny_done (by kernel_rfl) ?_ _
       go_wp2_with fail
       go_roundw
       case rel=>exact ⟨j+1,by omega,by go_num,HN2,hide ((unhide M).step hk9)⟩
       case measure=>simp [intOf];omega
   · have hd:decide ((j:Int)<L.length)=false:=by simp;omega
     obtain⟨k,hk⟩:=List.getElem?_of_mem (unhide HD)
     exact absurd hk (unhide HN k (by have:=(List.getElem?_eq_some_iff.1 hk).1;omega))
theorem rwish_dq (r:Rk) (ln:Value) (b:Nat) (L:List Wi) (x:Wi) (w:World) (h:Blk w b 80 (r.C ln)) (hW:Ws w ln L) (hx:x.Ok) (hL:L.length≤800) (hwt:¬r.wt=0) (hc:¬r.wi=x) (hd:x∈L):Calls Try.prog 28 #[P0 b,aggV x.C] w (RC b ln w (r,L,[])):=by
 have M:=hide (Mm.one h)
 have HB0:=hide h
 have HW:=hide hW
 have P47:∀W,Hid (Calls Try.prog 26 #[.int .i64 x.n] W fun e w'=>e= .returned (.bool true)∧w'=W):=fun W=>hide (by have h9:=in47 x.n W;rw [show isN (x.n:Int)=true by have:=hx.1;simp [isN];omega] at h9;exact h9)
 have hwd:decide (r.wt=0)=false:=by simpa using hwt
 have hwc:(r.wt !=0)=true:=by simpa using hwt
 have HC:Hid (decide (r.wi=x)=false):=by simpa [Hid] using hc
 have HD:=hide hd
 clear h hW hx hd hc
 obtain⟨ao,c,hln,_,_⟩:=(unhide HW).sl
 have HLN:=hide hln
 clear hln
 go_enter Try.func28,Try.ntmps28
 go_wp2_with (first |(refine wpBoxV rfl (.tmp 1) rfl x.C rfl ?_;intro W1 b3 e1 B1 K1;replace M:=hide ((unhide M).new e1 B1 K1);clear e1 B1 K1;refine Stp.go ?_))
 constructor
 go_wp2_with fail
 refine wp_region_any mixed (wpAny_tq 19 rfl (by kernel_rfl) [some (P0 b3),some (.int .i64 x.n),some (.bool true),some (.bool false),some (.bool false),some (P0 b),some (P0 b),some (.pointer (some ⟨b,29,none⟩)),some (.int .i64 r.wt),some (.bool true),some (.bool true),some (P0 b),some (P0 b),some (.pointer (some ⟨b,27,none⟩)),some (aggV (Wi.C (Rk.wi r))),some (aggV x.C),some (.bool false),some (.bool false),some (.bool false)] rfl (by kernel_rfl) (by kernel_rfl) ?_ ?_)
 · intro i o' hi hsk ho a' w2 hout hin hk2
   replace hk2:Kept [] W1 w2:=ud hk2
   match i,ho,hsk with
   | 0,ho,hsk=>
     cases ho
     exact o_fld41_0 (.tmp 3) rfl b3 (0) (0) rfl ((ho9 hout 3).trans rfl) (tE rfl)
   | 1,ho,hsk=>
     cases ho
     exact o_load3 (.tmp 6) rfl _ _ (is_tq (hi9 hin 0 6) rfl) (fits_cell (((unhide M).step hk2).at 1 _ rfl) 0 _ rfl) (tE rfl)
   | 2,ho,hsk=>
     cases ho
     have e0:a'.eval (.tmp 7)= .int .i64 x.n:=is_tq (hi9 hin 1 7) rfl
     refine wp_callF 26 _ _ rfl #[.int .i64 x.n] (by simp [e0]) (cg47 _ _) ((unhide (P47 _)).mono ?_)
     rintro e w3 ⟨rfl,rfl⟩
     exact⟨_,rfl,_,rfl,tq_is _ _ _ _ rfl,Kept.refl _ _,fun _ _ _ _ _=>trivial⟩
   | 3,ho,hsk=>
     cases ho
     exact o_not (.tmp 8) rfl (true) (is_tq (hi9 hin 2 8) rfl) (tE rfl)
   | 4,ho,hsk=>
     cases ho
     exact wp_move (.tmp 9) rfl _ (is_tq (hi9 hin 3 9) rfl) (tE rfl)
   | 5,ho,hsk=>
     cases ho
     exact wp_move (.tmp 0) rfl _ ((ho9 hout 0).trans rfl) (tE rfl)
   | 6,ho,hsk=>
     cases ho
     exact o_nil (.tmp 11) rfl _ (is_tq (hi9 hin 5 11) rfl) (tE rfl)
   | 7,ho,hsk=>
     cases ho
     exact o_fld47_7 (.tmp 12) rfl b (0) (29) rfl (is_tq (hi9 hin 6 12) rfl) (tE rfl)
   | 8,ho,hsk=>
     cases ho
     exact o_load3 (.tmp 13) rfl _ _ (is_tq (hi9 hin 7 13) rfl) (fits_cell (((unhide M).step hk2).at 0 _ rfl) 29 _ rfl) (tE rfl)
   | 9,ho,hsk=>
     cases ho
     exact c_neq3 (.tmp 14) (.const (.int .i64 (0))) rfl _ _ (false) (hwd) (is_tq (hi9 hin 8 14) rfl) rfl (tE rfl)
   | 10,ho,hsk=>
     cases ho
     exact wp_move (.tmp 15) rfl _ (is_tq (hi9 hin 9 15) rfl) (tE rfl)
   | 11,ho,hsk=>
     cases ho
     exact wp_move (.tmp 0) rfl _ ((ho9 hout 0).trans rfl) (tE rfl)
   | 12,ho,hsk=>
     cases ho
     exact o_nil (.tmp 17) rfl _ (is_tq (hi9 hin 11 17) rfl) (tE rfl)
   | 13,ho,hsk=>
     cases ho
     exact o_fld47_6 (.tmp 18) rfl b (0) (27) rfl (is_tq (hi9 hin 12 18) rfl) (tE rfl)
   | 14,ho,hsk=>
     cases ho
     exact wp_loadA row41 (.tmp 19) rfl b (27) (is_tq (hi9 hin 13 19) rfl) (Wi.C (Rk.wi r)) rfl (Blk.rhand (((unhide M).step hk2).at 0 _ rfl)) (tE rfl)
   | 15,ho,hsk=>
     cases ho
     exact wp_loadA row41 (.tmp 3) rfl b3 (0) ((ho9 hout 3).trans rfl) (x.C) rfl ((((unhide M).step hk2).at 1 _ rfl).range) (tE rfl)
   | 16,ho,hsk=>
     cases ho
     exact o_eqlA 38 38 guard41 (.tmp 20) (.tmp 21) rfl (Wi.C (Rk.wi r)) (x.C) (is_tq (hi9 hin 14 20) rfl) (is_tq (hi9 hin 15 21) rfl) false ((eqW41 _ _ _).trans (by rw [unhide HC])) (tE rfl)
   | 17,ho,hsk=>
     cases ho
     exact o_pick (.tmp 16) (.tmp 22) rfl _ (is_tq (hi9 hin 10 16) rfl) (is_tq (hi9 hin 16 22) rfl) (tE rfl)
   | 18,ho,hsk=>
     cases ho
     exact o_pickOr0 (.tmp 10) (.tmp 23) rfl _ (is_tq (hi9 hin 4 10) rfl) (is_tq (hi9 hin 17 23) rfl) (tE rfl)
 intro w9 hk9
 replace hk9:Kept [] W1 w9:=ud hk9
 simp only [valsQ,List.map_cons,List.map_nil,Option.getD_some,List.take_succ_cons,List.take_zero,putAll,Act.put,List.setIfInBounds_toArray,List.set_cons_succ,List.set_cons_zero]
 refine wpAny_done (by kernel_rfl) ?_ _
 replace M:=hide ((unhide M).step hk9)
 clear hk9
 go_wp2_with fail
 go_loopw [5] (fun i wr=>∃j:Nat,j≤L.length∧i= .int .i64 j∧Hid (∀k,k<j→L[k]?≠some x)∧Hid (Mm [b] w wr [(b,80,r.C ln),(b3,38,x.C)])) (fun i _=>L.length-(intOf i).toNat)
 case atStart=>exact ⟨0,by omega,rfl,fun k hk=>by omega,M⟩
 case round=>
   clear M
   obtain⟨j,hj,rfl,HN,M⟩:=hrel
   have c26:wr.cell? ⟨b,26,none⟩=some (.slice ao L.length c):=by rw [← unhide HLN];exact fits_cell ((unhide M).at 0 _ rfl) 26 _ rfl
   by_cases hlt:j<L.length
   · have hjI:(j:Int)<L.length:=by omega
     have hd:decide ((j:Int)<L.length)=true:=by simpa using hjI
     obtain⟨y,hy⟩:∃y,L[j]?=some y:=⟨_,List.getElem?_eq_getElem hlt⟩
     obtain⟨g,off,c',e,hr⟩:=Ws.get ((unhide HW).kept (unhide M).kept (Rw.ne (unhide HW) (unhide HB0) (by decide))) hy
     have hln:=unhide HLN
     rw [hln] at e
     cases e
     subst hln
     have HRr:∀ {W:World},Kept [] wr W→W.rangeAt g (off+j*2) y.C:=fun hk k u hu=>hk.cell (hr k u hu) (by simp)
     have HY:=hide hy
     clear hy
     by_cases hq:y=x
     · have HEQ:Hid (decide (y=x)=true):=by simpa [Hid] using hq
       clear hq
       go_wp2_with fail
       clear c26
       refine wp_region_any mixed (wpAny_tq 9 rfl (by kernel_rfl) [some (P0 b),some (P0 b),some (.pointer (some ⟨b,26,none⟩)),some (.slice (some ⟨g,off,none⟩) L.length c),some (.int .i64 j),some (.pointer (some ⟨g,off+j*2,none⟩)),some (aggV y.C),some (aggV x.C),some (.bool true)] rfl (by kernel_rfl) (by kernel_rfl) ?_ ?_)
       · intro i o' hi hsk ho a' w2 hout hin hk2
         replace hk2:Kept [] wr w2:=ud hk2
         match i,ho,hsk with
         | 0,ho,hsk=>
           cases ho
           exact wp_move (.tmp 0) rfl _ ((ho9 hout 0).trans rfl) (tE rfl)
         | 1,ho,hsk=>
           cases ho
           exact o_nil (.tmp 34) rfl _ (is_tq (hi9 hin 0 34) rfl) (tE rfl)
         | 2,ho,hsk=>
           cases ho
           exact o_fld47_5 (.tmp 35) rfl b (0) (26) rfl (is_tq (hi9 hin 1 35) rfl) (tE rfl)
         | 3,ho,hsk=>
           cases ho
           exact o_load38 (.tmp 36) rfl _ _ (is_tq (hi9 hin 2 36) rfl) (fits_cell (((unhide M).step hk2).at 0 _ rfl) 26 _ rfl) (tE rfl)
         | 4,ho,hsk=>
           cases ho
           exact wp_move (.tmp 5) rfl _ ((ho9 hout 5).trans rfl) (tE rfl)
         | 5,ho,hsk=>
           cases ho
           exact o_idx38n (.tmp 37) (.tmp 38) rfl g off L.length c j hlt (is_tq (hi9 hin 3 37) rfl) (is_tq (hi9 hin 4 38) rfl) (tE rfl)
         | 6,ho,hsk=>
           cases ho
           exact wp_loadA row41 (.tmp 39) rfl g (off+j*2) (is_tq (hi9 hin 5 39) rfl) (y.C) rfl (HRr hk2) (tE rfl)
         | 7,ho,hsk=>
           cases ho
           exact wp_loadA row41 (.tmp 3) rfl b3 (0) ((ho9 hout 3).trans rfl) (x.C) rfl ((((unhide M).step hk2).at 1 _ rfl).range) (tE rfl)
         | 8,ho,hsk=>
           cases ho
           exact o_eqlA 38 38 guard41 (.tmp 40) (.tmp 41) rfl (y.C) (x.C) (is_tq (hi9 hin 6 40) rfl) (is_tq (hi9 hin 7 41) rfl) true ((eqW41 _ _ _).trans (by rw [unhide HEQ])) (tE rfl)
       intro w9 hk9
       replace hk9:Kept [] wr w9:=ud hk9
       simp only [valsQ,List.map_cons,List.map_nil,Option.getD_some,List.take_succ_cons,List.take_zero,putAll,Act.put,List.setIfInBounds_toArray,List.set_cons_succ,List.set_cons_zero]
       refine wpAny_done (by kernel_rfl) ?_ _
       go_wp2_with fail
       go_ret
       have hM:=(unhide M).step hk9
       exact RC.none (unhide HB0) (unhide HW) hM.kept (hM.at 0 _ rfl)
     · have HEQ:Hid (decide (y=x)=false):=by simpa [Hid] using hq
       have HN2:Hid (∀k,k<j+1→L[k]?≠some x):=by
         intro k hk
         by_cases hkj:k=j
         · subst hkj;rw [unhide HY];intro e;cases e;exact hq rfl
         · exact unhide HN k (by omega)
       clear hq
       go_wp2_with fail
       clear c26
       refine wp_region_any mixed (wpAny_tq 9 rfl (by kernel_rfl) [some (P0 b),some (P0 b),some (.pointer (some ⟨b,26,none⟩)),some (.slice (some ⟨g,off,none⟩) L.length c),some (.int .i64 j),some (.pointer (some ⟨g,off+j*2,none⟩)),some (aggV y.C),some (aggV x.C),some (.bool false)] rfl (by kernel_rfl) (by kernel_rfl) ?_ ?_)
       · intro i o' hi hsk ho a' w2 hout hin hk2
         replace hk2:Kept [] wr w2:=ud hk2
         match i,ho,hsk with
         | 0,ho,hsk=>
           cases ho
           exact wp_move (.tmp 0) rfl _ ((ho9 hout 0).trans rfl) (tE rfl)
         | 1,ho,hsk=>
           cases ho
           exact o_nil (.tmp 34) rfl _ (is_tq (hi9 hin 0 34) rfl) (tE rfl)
         | 2,ho,hsk=>
           cases ho
           exact o_fld47_5 (.tmp 35) rfl b (0) (26) rfl (is_tq (hi9 hin 1 35) rfl) (tE rfl)
         | 3,ho,hsk=>
           cases ho
           exact o_load38 (.tmp 36) rfl _ _ (is_tq (hi9 hin 2 36) rfl) (fits_cell (((unhide M).step hk2).at 0 _ rfl) 26 _ rfl) (tE rfl)
         | 4,ho,hsk=>
           cases ho
           exact wp_move (.tmp 5) rfl _ ((ho9 hout 5).trans rfl) (tE rfl)
         | 5,ho,hsk=>
           cases ho
           exact o_idx38n (.tmp 37) (.tmp 38) rfl g off L.length c j hlt (is_tq (hi9 hin 3 37) rfl) (is_tq (hi9 hin 4 38) rfl) (tE rfl)
         | 6,ho,hsk=>
           cases ho
           exact wp_loadA row41 (.tmp 39) rfl g (off+j*2) (is_tq (hi9 hin 5 39) rfl) (y.C) rfl (HRr hk2) (tE rfl)
         | 7,ho,hsk=>
           cases ho
           exact wp_loadA row41 (.tmp 3) rfl b3 (0) ((ho9 hout 3).trans rfl) (x.C) rfl ((((unhide M).step hk2).at 1 _ rfl).range) (tE rfl)
         | 8,ho,hsk=>
           cases ho
           exact o_eqlA 38 38 guard41 (.tmp 40) (.tmp 41) rfl (y.C) (x.C) (is_tq (hi9 hin 6 40) rfl) (is_tq (hi9 hin 7 41) rfl) false ((eqW41 _ _ _).trans (by rw [unhide HEQ])) (tE rfl)
       intro w9 hk9
       replace hk9:Kept [] wr w9:=ud hk9
       simp only [valsQ,List.map_cons,List.map_nil,Option.getD_some,List.take_succ_cons,List.take_zero,putAll,Act.put,List.setIfInBounds_toArray,List.set_cons_succ,List.set_cons_zero]
       refine wpAny_done (by kernel_rfl) ?_ _
       go_wp2_with fail
       go_roundw
       case rel=>exact ⟨j+1,by omega,by go_num,HN2,hide ((unhide M).step hk9)⟩
       case measure=>simp [intOf];omega
   · have hd:decide ((j:Int)<L.length)=false:=by simp;omega
     obtain⟨k,hk⟩:=List.getElem?_of_mem (unhide HD)
     exact absurd hk (unhide HN k (by have:=(List.getElem?_eq_some_iff.1 hk).1;omega))
theorem rwish_e (r:Rk) (ln:Value) (b:Nat) (L:List Wi) (x:Wi) (w:World) (h:Blk w b 80 (r.C ln)) (hW:Ws w ln L) (hx:x.Ok) (hL:L.length≤800) (hwt:¬r.wt=0) (hc:¬r.wi=x) (hd:¬x∈L):Calls Try.prog 28 #[P0 b,aggV x.C] w (RC b ln w (r,L++ [x],[])):=by
 have M:=hide (Mm.one h)
 have HB0:=hide h
 have HW:=hide hW
 have P47:∀W,Hid (Calls Try.prog 26 #[.int .i64 x.n] W fun e w'=>e= .returned (.bool true)∧w'=W):=fun W=>hide (by have h9:=in47 x.n W;rw [show isN (x.n:Int)=true by have:=hx.1;simp [isN];omega] at h9;exact h9)
 have hwd:decide (r.wt=0)=false:=by simpa using hwt
 have hwc:(r.wt !=0)=true:=by simpa using hwt
 have HC:Hid (decide (r.wi=x)=false):=by simpa [Hid] using hc
 have HD:=hide hd
 clear h hW hx hd hc
 obtain⟨ao,c,hln,_,_⟩:=(unhide HW).sl
 have HLN:=hide hln
 clear hln
 go_enter Try.func28,Try.ntmps28
 go_wp2_with (first |(refine wpBoxV rfl (.tmp 1) rfl x.C rfl ?_;intro W1 b3 e1 B1 K1;replace M:=hide ((unhide M).new e1 B1 K1);clear e1 B1 K1;refine Stp.go ?_))
 constructor
 go_wp2_with fail
 refine wp_region_any mixed (wpAny_tq 19 rfl (by kernel_rfl) [some (P0 b3),some (.int .i64 x.n),some (.bool true),some (.bool false),some (.bool false),some (P0 b),some (P0 b),some (.pointer (some ⟨b,29,none⟩)),some (.int .i64 r.wt),some (.bool true),some (.bool true),some (P0 b),some (P0 b),some (.pointer (some ⟨b,27,none⟩)),some (aggV (Wi.C (Rk.wi r))),some (aggV x.C),some (.bool false),some (.bool false),some (.bool false)] rfl (by kernel_rfl) (by kernel_rfl) ?_ ?_)
 · intro i o' hi hsk ho a' w2 hout hin hk2
   replace hk2:Kept [] W1 w2:=ud hk2
   match i,ho,hsk with
   | 0,ho,hsk=>
     cases ho
     exact o_fld41_0 (.tmp 3) rfl b3 (0) (0) rfl ((ho9 hout 3).trans rfl) (tE rfl)
   | 1,ho,hsk=>
     cases ho
     exact o_load3 (.tmp 6) rfl _ _ (is_tq (hi9 hin 0 6) rfl) (fits_cell (((unhide M).step hk2).at 1 _ rfl) 0 _ rfl) (tE rfl)
   | 2,ho,hsk=>
     cases ho
     have e0:a'.eval (.tmp 7)= .int .i64 x.n:=is_tq (hi9 hin 1 7) rfl
     refine wp_callF 26 _ _ rfl #[.int .i64 x.n] (by simp [e0]) (cg47 _ _) ((unhide (P47 _)).mono ?_)
     rintro e w3 ⟨rfl,rfl⟩
     exact⟨_,rfl,_,rfl,tq_is _ _ _ _ rfl,Kept.refl _ _,fun _ _ _ _ _=>trivial⟩
   | 3,ho,hsk=>
     cases ho
     exact o_not (.tmp 8) rfl (true) (is_tq (hi9 hin 2 8) rfl) (tE rfl)
   | 4,ho,hsk=>
     cases ho
     exact wp_move (.tmp 9) rfl _ (is_tq (hi9 hin 3 9) rfl) (tE rfl)
   | 5,ho,hsk=>
     cases ho
     exact wp_move (.tmp 0) rfl _ ((ho9 hout 0).trans rfl) (tE rfl)
   | 6,ho,hsk=>
     cases ho
     exact o_nil (.tmp 11) rfl _ (is_tq (hi9 hin 5 11) rfl) (tE rfl)
   | 7,ho,hsk=>
     cases ho
     exact o_fld47_7 (.tmp 12) rfl b (0) (29) rfl (is_tq (hi9 hin 6 12) rfl) (tE rfl)
   | 8,ho,hsk=>
     cases ho
     exact o_load3 (.tmp 13) rfl _ _ (is_tq (hi9 hin 7 13) rfl) (fits_cell (((unhide M).step hk2).at 0 _ rfl) 29 _ rfl) (tE rfl)
   | 9,ho,hsk=>
     cases ho
     exact c_neq3 (.tmp 14) (.const (.int .i64 (0))) rfl _ _ (false) (hwd) (is_tq (hi9 hin 8 14) rfl) rfl (tE rfl)
   | 10,ho,hsk=>
     cases ho
     exact wp_move (.tmp 15) rfl _ (is_tq (hi9 hin 9 15) rfl) (tE rfl)
   | 11,ho,hsk=>
     cases ho
     exact wp_move (.tmp 0) rfl _ ((ho9 hout 0).trans rfl) (tE rfl)
   | 12,ho,hsk=>
     cases ho
     exact o_nil (.tmp 17) rfl _ (is_tq (hi9 hin 11 17) rfl) (tE rfl)
   | 13,ho,hsk=>
     cases ho
     exact o_fld47_6 (.tmp 18) rfl b (0) (27) rfl (is_tq (hi9 hin 12 18) rfl) (tE rfl)
   | 14,ho,hsk=>
     cases ho
     exact wp_loadA row41 (.tmp 19) rfl b (27) (is_tq (hi9 hin 13 19) rfl) (Wi.C (Rk.wi r)) rfl (Blk.rhand (((unhide M).step hk2).at 0 _ rfl)) (tE rfl)
   | 15,ho,hsk=>
     cases ho
     exact wp_loadA row41 (.tmp 3) rfl b3 (0) ((ho9 hout 3).trans rfl) (x.C) rfl ((((unhide M).step hk2).at 1 _ rfl).range) (tE rfl)
   | 16,ho,hsk=>
     cases ho
     exact o_eqlA 38 38 guard41 (.tmp 20) (.tmp 21) rfl (Wi.C (Rk.wi r)) (x.C) (is_tq (hi9 hin 14 20) rfl) (is_tq (hi9 hin 15 21) rfl) false ((eqW41 _ _ _).trans (by rw [unhide HC])) (tE rfl)
   | 17,ho,hsk=>
     cases ho
     exact o_pick (.tmp 16) (.tmp 22) rfl _ (is_tq (hi9 hin 10 16) rfl) (is_tq (hi9 hin 16 22) rfl) (tE rfl)
   | 18,ho,hsk=>
     cases ho
     exact o_pickOr0 (.tmp 10) (.tmp 23) rfl _ (is_tq (hi9 hin 4 10) rfl) (is_tq (hi9 hin 17 23) rfl) (tE rfl)
 intro w9 hk9
 replace hk9:Kept [] W1 w9:=ud hk9
 simp only [valsQ,List.map_cons,List.map_nil,Option.getD_some,List.take_succ_cons,List.take_zero,putAll,Act.put,List.setIfInBounds_toArray,List.set_cons_succ,List.set_cons_zero]
 refine wpAny_done (by kernel_rfl) ?_ _
 replace M:=hide ((unhide M).step hk9)
 clear hk9
 go_wp2_with fail
 go_loopw [5] (fun i wr=>∃j:Nat,j≤L.length∧i= .int .i64 j∧Hid (∀k,k<j→L[k]?≠some x)∧Hid (Mm [b] w wr [(b,80,r.C ln),(b3,38,x.C)])) (fun i _=>L.length-(intOf i).toNat)
 case atStart=>exact ⟨0,by omega,rfl,fun k hk=>by omega,M⟩
 case round=>
   clear M
   obtain⟨j,hj,rfl,HN,M⟩:=hrel
   have c26:wr.cell? ⟨b,26,none⟩=some (.slice ao L.length c):=by rw [← unhide HLN];exact fits_cell ((unhide M).at 0 _ rfl) 26 _ rfl
   by_cases hlt:j<L.length
   · have hjI:(j:Int)<L.length:=by omega
     have hd:decide ((j:Int)<L.length)=true:=by simpa using hjI
     obtain⟨y,hy⟩:∃y,L[j]?=some y:=⟨_,List.getElem?_eq_getElem hlt⟩
     obtain⟨g,off,c',e,hr⟩:=Ws.get ((unhide HW).kept (unhide M).kept (Rw.ne (unhide HW) (unhide HB0) (by decide))) hy
     have hln:=unhide HLN
     rw [hln] at e
     cases e
     subst hln
     have HRr:∀ {W:World},Kept [] wr W→W.rangeAt g (off+j*2) y.C:=fun hk k u hu=>hk.cell (hr k u hu) (by simp)
     have HY:=hide hy
     clear hy
     by_cases hq:y=x
     · have HEQ:Hid (decide (y=x)=true):=by simpa [Hid] using hq
       exact absurd (by rw [← hq];exact List.mem_of_getElem? (unhide HY)) (unhide HD)
     · have HEQ:Hid (decide (y=x)=false):=by simpa [Hid] using hq
       have HN2:Hid (∀k,k<j+1→L[k]?≠some x):=by
         intro k hk
         by_cases hkj:k=j
         · subst hkj;rw [unhide HY];intro e;cases e;exact hq rfl
         · exact unhide HN k (by omega)
       clear hq
       go_wp2_with fail
       clear c26
       refine wp_region_any mixed (wpAny_tq 9 rfl (by kernel_rfl) [some (P0 b),some (P0 b),some (.pointer (some ⟨b,26,none⟩)),some (.slice (some ⟨g,off,none⟩) L.length c),some (.int .i64 j),some (.pointer (some ⟨g,off+j*2,none⟩)),some (aggV y.C),some (aggV x.C),some (.bool false)] rfl (by kernel_rfl) (by kernel_rfl) ?_ ?_)
       · intro i o' hi hsk ho a' w2 hout hin hk2
         replace hk2:Kept [] wr w2:=ud hk2
         match i,ho,hsk with
         | 0,ho,hsk=>
           cases ho
           exact wp_move (.tmp 0) rfl _ ((ho9 hout 0).trans rfl) (tE rfl)
         | 1,ho,hsk=>
           cases ho
           exact o_nil (.tmp 34) rfl _ (is_tq (hi9 hin 0 34) rfl) (tE rfl)
         | 2,ho,hsk=>
           cases ho
           exact o_fld47_5 (.tmp 35) rfl b (0) (26) rfl (is_tq (hi9 hin 1 35) rfl) (tE rfl)
         | 3,ho,hsk=>
           cases ho
           exact o_load38 (.tmp 36) rfl _ _ (is_tq (hi9 hin 2 36) rfl) (fits_cell (((unhide M).step hk2).at 0 _ rfl) 26 _ rfl) (tE rfl)
         | 4,ho,hsk=>
           cases ho
           exact wp_move (.tmp 5) rfl _ ((ho9 hout 5).trans rfl) (tE rfl)
         | 5,ho,hsk=>
           cases ho
           exact o_idx38n (.tmp 37) (.tmp 38) rfl g off L.length c j hlt (is_tq (hi9 hin 3 37) rfl) (is_tq (hi9 hin 4 38) rfl) (tE rfl)
         | 6,ho,hsk=>
           cases ho
           exact wp_loadA row41 (.tmp 39) rfl g (off+j*2) (is_tq (hi9 hin 5 39) rfl) (y.C) rfl (HRr hk2) (tE rfl)
         | 7,ho,hsk=>
           cases ho
           exact wp_loadA row41 (.tmp 3) rfl b3 (0) ((ho9 hout 3).trans rfl) (x.C) rfl ((((unhide M).step hk2).at 1 _ rfl).range) (tE rfl)
         | 8,ho,hsk=>
           cases ho
           exact o_eqlA 38 38 guard41 (.tmp 40) (.tmp 41) rfl (y.C) (x.C) (is_tq (hi9 hin 6 40) rfl) (is_tq (hi9 hin 7 41) rfl) false ((eqW41 _ _ _).trans (by rw [unhide HEQ])) (tE rfl)
       intro w9 hk9
       replace hk9:Kept [] wr w9:=ud hk9
       simp only [valsQ,List.map_cons,List.map_nil,Option.getD_some,List.take_succ_cons,List.take_zero,putAll,Act.put,List.setIfInBounds_toArray,List.set_cons_succ,List.set_cons_zero]
       refine wpAny_done (by kernel_rfl) ?_ _
       go_wp2_with fail
       go_roundw
       case rel=>exact ⟨j+1,by omega,by go_num,HN2,hide ((unhide M).step hk9)⟩
       case measure=>simp [intOf];omega
   · have hd:decide ((j:Int)<L.length)=false:=by simp;omega
     go_wp2_with fail
     clear c26 HLN
     refine wp_region_any mixed (wpAny_gx 11 rfl (by kernel_rfl) [some (P0 b),some (P0 b),some (P0 b),some (.pointer (some ⟨b,26,none⟩)),some (ln),some (aggV x.C),none,none,some (P0 b),some (.pointer (some ⟨b,26,none⟩)),none] rfl (by kernel_rfl) (fun l vs W=>(S4 w b b3 r ln L x) (fun i=>l.getD i false) vs W) (⟨fun _ _=>(unhide M).drew,(fun h=>by cases h),fun h=>by cases h⟩) ?_ ?_)
     · intro ix o' hi ho a' w2 l vs hls hlf hJ hout hin hdep hnot
       match ix,ho with
       | 0,ho=>
         cases ho
         have e0:=ho9 hout 0
         replace e0:a'.eval (.tmp 0)=_:=e0.trans rfl
         exact wp_move (.tmp 0) rfl _ e0 ⟨_,rfl,told_of rfl,keepG [6,7,10] S4.loc (by omega) (by decide) hJ⟩
       | 1,ho=>
         cases ho
         have e0:=ho9 hout 0
         replace e0:a'.eval (.tmp 0)=_:=e0.trans rfl
         exact wp_move (.tmp 0) rfl _ e0 ⟨_,rfl,told_of rfl,keepG [6,7,10] S4.loc (by omega) (by decide) hJ⟩
       | 2,ho=>
         cases ho
         exact o_nil (.tmp 44) rfl _ (hx9 (hi9 hin 1 44) rfl) ⟨_,rfl,told_of rfl,keepG [6,7,10] S4.loc (by omega) (by decide) hJ⟩
       | 3,ho=>
         cases ho
         exact o_fld47_5 (.tmp 45) rfl b (0) (26) rfl (hx9 (hi9 hin 2 45) rfl) ⟨_,rfl,told_of rfl,keepG [6,7,10] S4.loc (by omega) (by decide) hJ⟩
       | 4,ho=>
         cases ho
         exact o_load38 (.tmp 46) rfl _ _ (hx9 (hi9 hin 3 46) rfl) (fits_cell (S4.at hJ (ho9 hnot 7)).1 26 _ rfl) ⟨_,rfl,told_of rfl,keepG [6,7,10] S4.loc (by omega) (by decide) hJ⟩
       | 5,ho=>
         cases ho
         have e0:=ho9 hout 3
         replace e0:a'.eval (.tmp 3)=_:=e0.trans rfl
         exact wp_loadA row41 (.tmp 3) rfl b3 (0) e0 (x.C) rfl ((S4.at hJ (ho9 hnot 7)).2.range) ⟨_,rfl,told_of rfl,keepG [6,7,10] S4.loc (by omega) (by decide) hJ⟩
       | 6,ho=>
         cases ho
         have e0:a'.eval (.tmp 48)=aggV x.C:=hx9 (hi9 hin 5 48) rfl
         refine o_bs38 (.tmp 48) rfl x e0 (fun W g h1 h2 h3=> ?_)
         exact⟨_,rfl,told_no rfl,nextG (by omega) (S4.make hJ hlf (ho9 hnot 7) h1 h2 h3)⟩
       | 7,ho=>
         cases ho
         have e0:a'.eval (.tmp 47)=ln:=hx9 (hi9 hin 4 47) rfl
         have e1:a'.eval (.tmp 49)=vs 6:=(hi9 hin 6 49).1
         obtain⟨g,eg,hM⟩:=hJ.2.1 (ho9 hdep 6) hlf
         refine o_appR el38 (.tmp 47) (.tmp 49) rfl ln _ _ e0 ((unhide HW).kept hM.kept (Rw.ne (unhide HW) (unhide HB0) (by decide))) _ 1 x.C (e1.trans eg) (Rw.made (hM.at 2 _ rfl) rfl (max1000 (by omega))) (Wi.one _) (by omega) (max1000 (by omega)) (fun v9 W9 h1 h2 h3 h4=> ?_)
         exact⟨_,rfl,told_no rfl,nextG (by omega) (S4.app hJ (unhide HB0) (unhide HW) (ho9 hdep 6) hlf (ho9 hnot 10) h1 h2 h3 h4)⟩
       | 8,ho=>
         cases ho
         exact o_nil (.tmp 43) rfl _ (hx9 (hi9 hin 0 43) rfl) ⟨_,rfl,told_of rfl,keepG [6,7,10] S4.loc (by omega) (by decide) hJ⟩
       | 9,ho=>
         cases ho
         exact o_fld47_5 (.tmp 51) rfl b (0) (26) rfl (hx9 (hi9 hin 8 51) rfl) ⟨_,rfl,told_of rfl,keepG [6,7,10] S4.loc (by omega) (by decide) hJ⟩
       | 10,ho=>
         cases ho
         have e0:a'.eval (.tmp 52)= .pointer (some ⟨b,26,none⟩):=hx9 (hi9 hin 9 52) rfl
         have e1:a'.eval (.tmp 50)=vs 7:=(hi9 hin 7 50).1
         have h7:=ho9 hdep 7
         obtain⟨hA,hb,_⟩:=hJ.2.2 h7
         exact o_stB size38 (.tmp 52) (.tmp 50) rfl rfl b 26 (vs 7) hA.row.one e0 e1 (hb hlf) (show 26+1≤_ from Nat.le_of_ble_eq_true rfl) rfl (fun W h1 h2=>⟨undef,rfl,told_no rfl,nextG (by omega) (S4.store hJ h7 hlf h1 h2)⟩)
     intro l_ vs4 V4 hl hJ htold
     have t0:vs4 0=P0 b:=told_is _ (htold 0 (by decide)) rfl
     have t1:vs4 1=P0 b:=told_is _ (htold 1 (by decide)) rfl
     have t2:vs4 2=P0 b:=told_is _ (htold 2 (by decide)) rfl
     have t3:vs4 3= .pointer (some ⟨b,26,none⟩):=told_is _ (htold 3 (by decide)) rfl
     have t4:vs4 4=ln:=told_is _ (htold 4 (by decide)) rfl
     have t5:vs4 5=aggV x.C:=told_is _ (htold 5 (by decide)) rfl
     have t8:vs4 8=P0 b:=told_is _ (htold 8 (by decide)) rfl
     have t9:vs4 9= .pointer (some ⟨b,26,none⟩):=told_is _ (htold 9 (by decide)) rfl
     rw [show (List.range 11).map vs4= [vs4 0,vs4 1,vs4 2,vs4 3,vs4 4,vs4 5,vs4 6,vs4 7,vs4 8,vs4 9,vs4 10] from rfl]
     simp only [t0,t1,t2,t3,t4,t5,t8,t9,putAll,Act.put,List.setIfInBounds_toArray,List.set_cons_succ,List.set_cons_zero]
     clear t0 t1 t2 t3 t4 t5 t8 t9 htold
     obtain⟨hA,_,hb⟩:=hJ.2.2 (hl 7 (by decide))
     replace hb:=hb (hl 10 (by decide))
     generalize vs4 7=v7 at hA hb⊢
     have HA:=hide hA
     have HB:=hide hb
     clear hA hb hJ hl M
     have c29:V4.cell? ⟨b,29,none⟩=some (.int .i64 r.wt):=fits_cell (unhide HB) 29 _ rfl
     go_wp2_with fail
     go_ret
     exact⟨_,v7,rfl,New.nil _ _ _ _,unhide HB,(unhide HA).row,(unhide HA).kept,(unhide HA).grw⟩
theorem rwish_f (r:Rk) (ln:Value) (b:Nat) (L:List Wi) (x:Wi) (w:World) (h:Blk w b 80 (r.C ln)) (hW:Ws w ln L) (hx:x.Ok) (hL:L.length≤800) (hwt:r.wt=0) (hd:¬x∈L) (hr:r.Ok) (hall:∀x∈L,x.Ok) (hop:0≤r.op∧r.op+L.length≤900000):Calls Try.prog 28 #[P0 b,aggV x.C] w (RC b ln w (rdone r (L++ [x]))):=by
 have M:=hide (Mm.one h)
 have HB0:=hide h
 have HW:=hide hW
 have P47:∀W,Hid (Calls Try.prog 26 #[.int .i64 x.n] W fun e w'=>e= .returned (.bool true)∧w'=W):=fun W=>hide (by have h9:=in47 x.n W;rw [show isN (x.n:Int)=true by have:=hx.1;simp [isN];omega] at h9;exact h9)
 have HD:=hide hd
 have HS:=hide hr
 have HAl:Hid (∀y∈L++ [x],y.Ok):=by intro y hy;rcases List.mem_append.1 hy with h1 | h1;exact hall y h1;simp at h1;subst h1;exact hx
 have HOp:Hid (0≤r.op∧r.op+(L++ [x]).length≤1000000):=by show _∧_;rw [List.length_append];simp;omega
 clear hr hall hop
 clear h hW hx hd
 obtain⟨ao,c,hln,_,_⟩:=(unhide HW).sl
 have HLN:=hide hln
 clear hln
 go_enter Try.func28,Try.ntmps28
 go_wp2_with (first |(refine wpBoxV rfl (.tmp 1) rfl x.C rfl ?_;intro W1 b3 e1 B1 K1;replace M:=hide ((unhide M).new e1 B1 K1);clear e1 B1 K1;refine Stp.go ?_))
 constructor
 go_wp2_with fail
 refine wp_region_any mixed (wpAny_tq 19 rfl (by kernel_rfl) [some (P0 b3),some (.int .i64 x.n),some (.bool true),some (.bool false),some (.bool false),some (P0 b),some (P0 b),some (.pointer (some ⟨b,29,none⟩)),some (.int .i64 0),some (.bool false),some (.bool false),none,none,none,none,none,none,some (.bool false),some (.bool false)] rfl (by kernel_rfl) (by kernel_rfl) ?_ ?_)
 · intro i o' hi hsk ho a' w2 hout hin hk2
   replace hk2:Kept [] W1 w2:=ud hk2
   match i,ho,hsk with
   | 0,ho,hsk=>
     cases ho
     exact o_fld41_0 (.tmp 3) rfl b3 (0) (0) rfl ((ho9 hout 3).trans rfl) (tE rfl)
   | 1,ho,hsk=>
     cases ho
     exact o_load3 (.tmp 6) rfl _ _ (is_tq (hi9 hin 0 6) rfl) (fits_cell (((unhide M).step hk2).at 1 _ rfl) 0 _ rfl) (tE rfl)
   | 2,ho,hsk=>
     cases ho
     have e0:a'.eval (.tmp 7)= .int .i64 x.n:=is_tq (hi9 hin 1 7) rfl
     refine wp_callF 26 _ _ rfl #[.int .i64 x.n] (by simp [e0]) (cg47 _ _) ((unhide (P47 _)).mono ?_)
     rintro e w3 ⟨rfl,rfl⟩
     exact⟨_,rfl,_,rfl,tq_is _ _ _ _ rfl,Kept.refl _ _,fun _ _ _ _ _=>trivial⟩
   | 3,ho,hsk=>
     cases ho
     exact o_not (.tmp 8) rfl (true) (is_tq (hi9 hin 2 8) rfl) (tE rfl)
   | 4,ho,hsk=>
     cases ho
     exact wp_move (.tmp 9) rfl _ (is_tq (hi9 hin 3 9) rfl) (tE rfl)
   | 5,ho,hsk=>
     cases ho
     exact wp_move (.tmp 0) rfl _ ((ho9 hout 0).trans rfl) (tE rfl)
   | 6,ho,hsk=>
     cases ho
     exact o_nil (.tmp 11) rfl _ (is_tq (hi9 hin 5 11) rfl) (tE rfl)
   | 7,ho,hsk=>
     cases ho
     exact o_fld47_7 (.tmp 12) rfl b (0) (29) rfl (is_tq (hi9 hin 6 12) rfl) (tE rfl)
   | 8,ho,hsk=>
     cases ho
     exact o_load3 (.tmp 13) rfl _ _ (is_tq (hi9 hin 7 13) rfl) (by have h9:=fits_cell (((unhide M).step hk2).at 0 _ rfl) 29 _ rfl;rw [hwt] at h9;exact h9) (tE rfl)
   | 9,ho,hsk=>
     cases ho
     exact c_neq3 (.tmp 14) (.const (.int .i64 (0))) rfl _ _ (true) (by rfl) (is_tq (hi9 hin 8 14) rfl) rfl (tE rfl)
   | 10,ho,hsk=>
     cases ho
     exact wp_move (.tmp 15) rfl _ (is_tq (hi9 hin 9 15) rfl) (tE rfl)
   | 11,ho,hsk=>
     cases hsk
   | 12,ho,hsk=>
     cases hsk
   | 13,ho,hsk=>
     cases hsk
   | 14,ho,hsk=>
     cases hsk
   | 15,ho,hsk=>
     cases hsk
   | 16,ho,hsk=>
     cases hsk
   | 17,ho,hsk=>
     cases ho
     exact o_pickN (.tmp 16) (.tmp 22) rfl (is_tq (hi9 hin 10 16) rfl) (tE rfl)
   | 18,ho,hsk=>
     cases ho
     exact o_pickOr0 (.tmp 10) (.tmp 23) rfl _ (is_tq (hi9 hin 4 10) rfl) (is_tq (hi9 hin 17 23) rfl) (tE rfl)
 intro w9 hk9
 replace hk9:Kept [] W1 w9:=ud hk9
 simp only [valsQ,List.map_cons,List.map_nil,Option.getD_some,Option.getD_none,List.take_succ_cons,List.take_zero,putAll,Act.put,List.setIfInBounds_toArray,List.set_cons_succ,List.set_cons_zero]
 refine wpAny_done (by kernel_rfl) ?_ _
 replace M:=hide ((unhide M).step hk9)
 clear hk9
 go_wp2_with fail
 go_loopw [5] (fun i wr=>∃j:Nat,j≤L.length∧i= .int .i64 j∧Hid (∀k,k<j→L[k]?≠some x)∧Hid (Mm [b] w wr [(b,80,r.C ln),(b3,38,x.C)])) (fun i _=>L.length-(intOf i).toNat)
 case atStart=>exact ⟨0,by omega,rfl,fun k hk=>by omega,M⟩
 case round=>
   clear M
   obtain⟨j,hj,rfl,HN,M⟩:=hrel
   have c26:wr.cell? ⟨b,26,none⟩=some (.slice ao L.length c):=by rw [← unhide HLN];exact fits_cell ((unhide M).at 0 _ rfl) 26 _ rfl
   by_cases hlt:j<L.length
   · have hjI:(j:Int)<L.length:=by omega
     have hd:decide ((j:Int)<L.length)=true:=by simpa using hjI
     obtain⟨y,hy⟩:∃y,L[j]?=some y:=⟨_,List.getElem?_eq_getElem hlt⟩
     obtain⟨g,off,c',e,hr⟩:=Ws.get ((unhide HW).kept (unhide M).kept (Rw.ne (unhide HW) (unhide HB0) (by decide))) hy
     have hln:=unhide HLN
     rw [hln] at e
     cases e
     subst hln
     have HRr:∀ {W:World},Kept [] wr W→W.rangeAt g (off+j*2) y.C:=fun hk k u hu=>hk.cell (hr k u hu) (by simp)
     have HY:=hide hy
     clear hy
     by_cases hq:y=x
     · have HEQ:Hid (decide (y=x)=true):=by simpa [Hid] using hq
       exact absurd (by rw [← hq];exact List.mem_of_getElem? (unhide HY)) (unhide HD)
     · have HEQ:Hid (decide (y=x)=false):=by simpa [Hid] using hq
       have HN2:Hid (∀k,k<j+1→L[k]?≠some x):=by
         intro k hk
         by_cases hkj:k=j
         · subst hkj;rw [unhide HY];intro e;cases e;exact hq rfl
         · exact unhide HN k (by omega)
       clear hq
       go_wp2_with fail
       clear c26
       refine wp_region_any mixed (wpAny_tq 9 rfl (by kernel_rfl) [some (P0 b),some (P0 b),some (.pointer (some ⟨b,26,none⟩)),some (.slice (some ⟨g,off,none⟩) L.length c),some (.int .i64 j),some (.pointer (some ⟨g,off+j*2,none⟩)),some (aggV y.C),some (aggV x.C),some (.bool false)] rfl (by kernel_rfl) (by kernel_rfl) ?_ ?_)
       · intro i o' hi hsk ho a' w2 hout hin hk2
         replace hk2:Kept [] wr w2:=ud hk2
         match i,ho,hsk with
         | 0,ho,hsk=>
           cases ho
           exact wp_move (.tmp 0) rfl _ ((ho9 hout 0).trans rfl) (tE rfl)
         | 1,ho,hsk=>
           cases ho
           exact o_nil (.tmp 34) rfl _ (is_tq (hi9 hin 0 34) rfl) (tE rfl)
         | 2,ho,hsk=>
           cases ho
           exact o_fld47_5 (.tmp 35) rfl b (0) (26) rfl (is_tq (hi9 hin 1 35) rfl) (tE rfl)
         | 3,ho,hsk=>
           cases ho
           exact o_load38 (.tmp 36) rfl _ _ (is_tq (hi9 hin 2 36) rfl) (fits_cell (((unhide M).step hk2).at 0 _ rfl) 26 _ rfl) (tE rfl)
         | 4,ho,hsk=>
           cases ho
           exact wp_move (.tmp 5) rfl _ ((ho9 hout 5).trans rfl) (tE rfl)
         | 5,ho,hsk=>
           cases ho
           exact o_idx38n (.tmp 37) (.tmp 38) rfl g off L.length c j hlt (is_tq (hi9 hin 3 37) rfl) (is_tq (hi9 hin 4 38) rfl) (tE rfl)
         | 6,ho,hsk=>
           cases ho
           exact wp_loadA row41 (.tmp 39) rfl g (off+j*2) (is_tq (hi9 hin 5 39) rfl) (y.C) rfl (HRr hk2) (tE rfl)
         | 7,ho,hsk=>
           cases ho
           exact wp_loadA row41 (.tmp 3) rfl b3 (0) ((ho9 hout 3).trans rfl) (x.C) rfl ((((unhide M).step hk2).at 1 _ rfl).range) (tE rfl)
         | 8,ho,hsk=>
           cases ho
           exact o_eqlA 38 38 guard41 (.tmp 40) (.tmp 41) rfl (y.C) (x.C) (is_tq (hi9 hin 6 40) rfl) (is_tq (hi9 hin 7 41) rfl) false ((eqW41 _ _ _).trans (by rw [unhide HEQ])) (tE rfl)
       intro w9 hk9
       replace hk9:Kept [] wr w9:=ud hk9
       simp only [valsQ,List.map_cons,List.map_nil,Option.getD_some,List.take_succ_cons,List.take_zero,putAll,Act.put,List.setIfInBounds_toArray,List.set_cons_succ,List.set_cons_zero]
       refine wpAny_done (by kernel_rfl) ?_ _
       go_wp2_with fail
       go_roundw
       case rel=>exact ⟨j+1,by omega,by go_num,HN2,hide ((unhide M).step hk9)⟩
       case measure=>simp [intOf];omega
   · have hd:decide ((j:Int)<L.length)=false:=by simp;omega
     go_wp2_with fail
     clear c26 HLN
     refine wp_region_any mixed (wpAny_gx 11 rfl (by kernel_rfl) [some (P0 b),some (P0 b),some (P0 b),some (.pointer (some ⟨b,26,none⟩)),some (ln),some (aggV x.C),none,none,some (P0 b),some (.pointer (some ⟨b,26,none⟩)),none] rfl (by kernel_rfl) (fun l vs W=>(S4 w b b3 r ln L x) (fun i=>l.getD i false) vs W) (⟨fun _ _=>(unhide M).drew,(fun h=>by cases h),fun h=>by cases h⟩) ?_ ?_)
     · intro ix o' hi ho a' w2 l vs hls hlf hJ hout hin hdep hnot
       match ix,ho with
       | 0,ho=>
         cases ho
         have e0:=ho9 hout 0
         replace e0:a'.eval (.tmp 0)=_:=e0.trans rfl
         exact wp_move (.tmp 0) rfl _ e0 ⟨_,rfl,told_of rfl,keepG [6,7,10] S4.loc (by omega) (by decide) hJ⟩
       | 1,ho=>
         cases ho
         have e0:=ho9 hout 0
         replace e0:a'.eval (.tmp 0)=_:=e0.trans rfl
         exact wp_move (.tmp 0) rfl _ e0 ⟨_,rfl,told_of rfl,keepG [6,7,10] S4.loc (by omega) (by decide) hJ⟩
       | 2,ho=>
         cases ho
         exact o_nil (.tmp 44) rfl _ (hx9 (hi9 hin 1 44) rfl) ⟨_,rfl,told_of rfl,keepG [6,7,10] S4.loc (by omega) (by decide) hJ⟩
       | 3,ho=>
         cases ho
         exact o_fld47_5 (.tmp 45) rfl b (0) (26) rfl (hx9 (hi9 hin 2 45) rfl) ⟨_,rfl,told_of rfl,keepG [6,7,10] S4.loc (by omega) (by decide) hJ⟩
       | 4,ho=>
         cases ho
         exact o_load38 (.tmp 46) rfl _ _ (hx9 (hi9 hin 3 46) rfl) (fits_cell (S4.at hJ (ho9 hnot 7)).1 26 _ rfl) ⟨_,rfl,told_of rfl,keepG [6,7,10] S4.loc (by omega) (by decide) hJ⟩
       | 5,ho=>
         cases ho
         have e0:=ho9 hout 3
         replace e0:a'.eval (.tmp 3)=_:=e0.trans rfl
         exact wp_loadA row41 (.tmp 3) rfl b3 (0) e0 (x.C) rfl ((S4.at hJ (ho9 hnot 7)).2.range) ⟨_,rfl,told_of rfl,keepG [6,7,10] S4.loc (by omega) (by decide) hJ⟩
       | 6,ho=>
         cases ho
         have e0:a'.eval (.tmp 48)=aggV x.C:=hx9 (hi9 hin 5 48) rfl
         refine o_bs38 (.tmp 48) rfl x e0 (fun W g h1 h2 h3=> ?_)
         exact⟨_,rfl,told_no rfl,nextG (by omega) (S4.make hJ hlf (ho9 hnot 7) h1 h2 h3)⟩
       | 7,ho=>
         cases ho
         have e0:a'.eval (.tmp 47)=ln:=hx9 (hi9 hin 4 47) rfl
         have e1:a'.eval (.tmp 49)=vs 6:=(hi9 hin 6 49).1
         obtain⟨g,eg,hM⟩:=hJ.2.1 (ho9 hdep 6) hlf
         refine o_appR el38 (.tmp 47) (.tmp 49) rfl ln _ _ e0 ((unhide HW).kept hM.kept (Rw.ne (unhide HW) (unhide HB0) (by decide))) _ 1 x.C (e1.trans eg) (Rw.made (hM.at 2 _ rfl) rfl (max1000 (by omega))) (Wi.one _) (by omega) (max1000 (by omega)) (fun v9 W9 h1 h2 h3 h4=> ?_)
         exact⟨_,rfl,told_no rfl,nextG (by omega) (S4.app hJ (unhide HB0) (unhide HW) (ho9 hdep 6) hlf (ho9 hnot 10) h1 h2 h3 h4)⟩
       | 8,ho=>
         cases ho
         exact o_nil (.tmp 43) rfl _ (hx9 (hi9 hin 0 43) rfl) ⟨_,rfl,told_of rfl,keepG [6,7,10] S4.loc (by omega) (by decide) hJ⟩
       | 9,ho=>
         cases ho
         exact o_fld47_5 (.tmp 51) rfl b (0) (26) rfl (hx9 (hi9 hin 8 51) rfl) ⟨_,rfl,told_of rfl,keepG [6,7,10] S4.loc (by omega) (by decide) hJ⟩
       | 10,ho=>
         cases ho
         have e0:a'.eval (.tmp 52)= .pointer (some ⟨b,26,none⟩):=hx9 (hi9 hin 9 52) rfl
         have e1:a'.eval (.tmp 50)=vs 7:=(hi9 hin 7 50).1
         have h7:=ho9 hdep 7
         obtain⟨hA,hb,_⟩:=hJ.2.2 h7
         exact o_stB size38 (.tmp 52) (.tmp 50) rfl rfl b 26 (vs 7) hA.row.one e0 e1 (hb hlf) (show 26+1≤_ from Nat.le_of_ble_eq_true rfl) rfl (fun W h1 h2=>⟨undef,rfl,told_no rfl,nextG (by omega) (S4.store hJ h7 hlf h1 h2)⟩)
     intro l_ vs4 V4 hl hJ htold
     have t0:vs4 0=P0 b:=told_is _ (htold 0 (by decide)) rfl
     have t1:vs4 1=P0 b:=told_is _ (htold 1 (by decide)) rfl
     have t2:vs4 2=P0 b:=told_is _ (htold 2 (by decide)) rfl
     have t3:vs4 3= .pointer (some ⟨b,26,none⟩):=told_is _ (htold 3 (by decide)) rfl
     have t4:vs4 4=ln:=told_is _ (htold 4 (by decide)) rfl
     have t5:vs4 5=aggV x.C:=told_is _ (htold 5 (by decide)) rfl
     have t8:vs4 8=P0 b:=told_is _ (htold 8 (by decide)) rfl
     have t9:vs4 9= .pointer (some ⟨b,26,none⟩):=told_is _ (htold 9 (by decide)) rfl
     rw [show (List.range 11).map vs4= [vs4 0,vs4 1,vs4 2,vs4 3,vs4 4,vs4 5,vs4 6,vs4 7,vs4 8,vs4 9,vs4 10] from rfl]
     simp only [t0,t1,t2,t3,t4,t5,t8,t9,putAll,Act.put,List.setIfInBounds_toArray,List.set_cons_succ,List.set_cons_zero]
     clear t0 t1 t2 t3 t4 t5 t8 t9 htold
     obtain⟨hA,_,hb⟩:=hJ.2.2 (hl 7 (by decide))
     replace hb:=hb (hl 10 (by decide))
     generalize vs4 7=v7 at hA hb⊢
     have HA:=hide hA
     have HB:=hide hb
     clear hA hb hJ hl M
     have c29:V4.cell? ⟨b,29,none⟩=some (.int .i64 0):=by rw [← hwt];exact fits_cell (unhide HB) 29 _ rfl
     clear hwt
     go_wp2_with (first |(go_at_call 62;refine(rdone62 (L++ [x]) r v7 b _ (unhide HB) (unhide HA).row (unhide HS) (unhide HAl) (by rw [List.length_append];simp;omega) (unhide HOp).1 (unhide HOp).2).mono ?_;rintro e W9 ⟨v,ln2,rfl,N9,B9,R9,K9,S9⟩;have HN9:=hide (N9.elder (w:=w) (unhide HA).kept.size);have HB9:=hide B9;have HR9:=hide R9;have HK9:Hid (Kept (b::spare ln) w W9):=(unhide HA).kept.fresh K9 (fun i hi hl=>by rcases List.mem_cons.1 hi with rfl | hi;simp;rcases (unhide HA).grw.spare i hi with h1 | h1;exact List.mem_cons_of_mem _ h1;omega);have HS9:Hid (Grw w ln ln2):=⟨fun k hk=>by rcases S9.own k hk with h1 | h1;exact(unhide HA).grw.own k h1;have:=(unhide HA).kept.size;exact .inr (by omega),fun k hk=>by rcases S9.spare k hk with h1 | h1;exact(unhide HA).grw.spare k h1;have:=(unhide HA).kept.size;exact .inr (by omega)⟩;clear N9 B9 R9 K9 S9 c29;refine Stp.go ?_))
     constructor
     go_wp2_with fail
     go_ret
     exact⟨v,ln2,rfl,unhide HN9,unhide HB9,unhide HR9,unhide HK9,unhide HS9⟩
structure Rs (w:World) (b:Nat) (ln:Value) (s:Rk) (L:List Wi):Prop where
 blk:Blk w b 80 (s.C ln)
 row:Ws w ln L
 ok:s.Ok
 all:∀x∈L,x.Ok
 op0:0≤s.op
 op1:s.op+L.length≤900000
 len:L.length≤800
theorem Rs.row1 {w w':World} {b:Nat} {ln:Value} {s:Rk} {L:List Wi} (h:Rs w b ln s L) (hk:Kept [b] w w'):Ws w' ln L:=h.row.kept hk (Rw.ne h.row h.blk (by decide))
def rwishI (s:Rk) (L:List Wi) (m k:Int):Rk×List Wi×List Od:=if isN m then rwishP s L ⟨m.toNat,k⟩ else (s,L,[])
def rwantP (s:Rk) (L:List Wi) (m md:Int):Rk×List Wi×List Od:=if md=1 then rwishI s L m 1 else if md=2 then rwishI s L m 2 else (s,L,[])
theorem rwish33 (r:Rk) (ln:Value) (b:Nat) (L:List Wi) (m k:Int) (w:World) (h:Rs w b ln r L) (hk:k=1∨k=2∨k=3):Calls Try.prog 28 #[P0 b,aggV [.int .i64 m,.int .i64 k]] w (RC b ln w (rwishI r L m k)):=by
 unfold rwishI
 cases hm:isN m with
 | false=>rw [if_neg (by simp)];exact rwish_b r ln b L m k w h.blk h.row hm
 | true=>
   rw [if_pos rfl]
   have h1:0≤m∧m<8:=by simpa [isN] using hm
   have e:(Wi.mk m.toNat k).C= [.int .i64 m,.int .i64 k]:=by simp only [Wi.C];rw [show ((m.toNat:Nat):Int)=m by omega]
   rw [← e]
   have hx:(Wi.mk m.toNat k).Ok:=⟨by simp;omega,hk⟩
   generalize Wi.mk m.toNat k=x at hx
   unfold rwishP
   by_cases hd:x∈L
   · rw [if_pos (.inr hd)]
     by_cases hwt:r.wt=0
     · exact rwish_dp r ln b L x w h.blk h.row hx h.len hwt hd
     · by_cases hc:r.wi=x
       · exact rwish_c r ln b L x w h.blk h.row hx hwt hc
       · exact rwish_dq r ln b L x w h.blk h.row hx h.len hwt hc hd
   · by_cases hwt:r.wt=0
     · rw [if_neg (by simp [hwt,hd]),if_neg (by simp [hwt])]
       exact rwish_f r ln b L x w h.blk h.row hx h.len hwt hd h.ok h.all ⟨h.op0,h.op1⟩
     · by_cases hc:r.wi=x
       · rw [if_pos (.inl ⟨hwt,hc⟩)];exact rwish_c r ln b L x w h.blk h.row hx hwt hc
       · rw [if_neg (by simp [hc,hd]),if_pos hwt]
         exact rwish_e r ln b L x w h.blk h.row hx h.len hwt hc hd
end Go.Proofs.Ytbigongmlpoahaa
