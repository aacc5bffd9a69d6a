import Derived.Test.YtbigongmlpoahaaUFk
namespace Go.Proofs.Ytbigongmlpoahaa
set_option maxHeartbeats 2000000
set_option maxRecDepth 100000
set_option linter.unusedSimpArgs false
open Go.RowKit
structure Grw (w:World) (v u:Value):Prop where
 own:∀k,u.ownBlock=some k→v.ownBlock=some k∨w.heap.size≤k
 spare:∀k∈spare u,k∈Ytbigongmlpoahaa.spare v∨w.heap.size≤k
theorem Grw.refl (w:World) (v:Value):Grw w v v:=⟨fun _ h=> .inl h,fun _ h=> .inl h⟩
theorem Sub.grw {w:World} {u v:Value} (h:Sub u v):Grw w v u:=⟨fun k hk=> .inl (h.own k hk),fun k hk=> .inl (h.spare k hk)⟩
theorem Grw.sub {w:World} {u v x:Value} (h:Grw w v u) (k:Sub x u):Grw w v x:=⟨fun i hi=>h.own i (k.own i hi),fun i hi=>h.spare i (k.spare i hi)⟩
@[reducible] def LC (b:Nat) (ln:Value) (w:World) (r:Lo×List Wi×List Od) (e:Ending) (w':World):Prop:=∃v ln',e= .returned v∧Ou w w' v r.2.2∧Blk w' b 108 (r.1.C ln')∧Ws w' ln' r.2.1∧Kept (b::spare ln) w w'∧Grw w ln ln'
theorem LC.none {b:Nat} {ln:Value} {w w':World} {s:Lo} {L:List Wi} (hB:Blk w b 108 (s.C ln)) (hW:Ws w ln L) (hK:Kept [] w w'):LC b ln w (s,L,[]) (.returned (.slice none 0 0)) w':=
 ⟨_,ln,rfl,New.nil _ _ _ _,hB.kept hK (by simp),hW.kept hK (by simp),hK.mono (by simp),Grw.refl _ _⟩
def askP (s:Lo) (L:List Wi) (x:Wi):Lo×List Wi×List Od:=if s.wi=x∨x∈L then (s,L,[]) else if s.busy then (s,L++ [x],[]) else nextP s (L++ [x])
theorem cg40 (vs:Array Value) (w:World):(callFunc 68 vs).run Try.prog w= .ok (.enter 68 vs) w:=by kernel_rfl
theorem cg46 (vs:Array Value) (w:World):(callFunc 76 vs).run Try.prog w= .ok (.enter 76 vs) w:=by kernel_rfl
theorem cg66 (vs:Array Value) (w:World):(callFunc 92 vs).run Try.prog w= .ok (.enter 92 vs) w:=by kernel_rfl
theorem cg44 (vs:Array Value) (w:World):(callFunc 72 vs).run Try.prog w= .ok (.enter 72 vs) w:=by kernel_rfl
theorem cg42 (vs:Array Value) (w:World):(callFunc 70 vs).run Try.prog w= .ok (.enter 70 vs) w:=by kernel_rfl
theorem cg39 (vs:Array Value) (w:World):(callFunc 37 vs).run Try.prog w= .ok (.enter 37 vs) w:=by kernel_rfl
theorem cg43 (vs:Array Value) (w:World):(callFunc 71 vs).run Try.prog w= .ok (.enter 71 vs) w:=by kernel_rfl
section
variable {o:Oper} {a:Act} {w w0:World} {K:Act→World→Prop} {Q:Exit→Act→World→Prop}
theorem o_stB {T:Nat} (hs:(Try.prog.info? T).map (·.size)=some 1) (x y:Operand) (ho:o.op= .store T x y) (hd:o.dst=none) (b off:Nat) (v:Value) (h1:One v) (hx:a.eval x= .pointer (some ⟨b,off,none⟩)) (hy:a.eval y=v) {TT:Nat} {us us':List Value} (hB:Blk w b TT us) (hl:off<us.length) (he:us.set off v=us')
   (h:∀W,Blk W b TT us'→Kept [b] w W→K a W):o.wp Try.prog a w K Q:=by
 subst he
 have hst:=storeVar1 hs hB hl v h1.1 h1.2
 unfold Oper.wp execOp
 simp only [ho,hx,hy,Instr.storeAt,Instr.sureAddr,Sem.run_bind,Sem.run_pure,Result.andThen_ok,hst]
 show K (a.put o.dst undef) _
 rw [hd]
 exact h _ (hB.set v) ((Kept.refl _ _).setCell (by simp) v)
end
structure Ap (w W:World) (b:Nat) (ln v:Value) (L:List Wi) (x:Wi):Prop where
 row:Ws W v (L++ [x])
 kept:Kept (b::spare ln) w W
 grw:Grw w ln v
@[reducible] def S3 (w:World) (b b3:Nat) (s:Lo) (ln:Value) (L:List Wi) (x:Wi) (d:Nat→Bool) (vs:Nat→Value) (W:World):Prop:=
 (d 6=false→d 7=false→Mm [b] w W [(b,108,s.C ln),(b3,38,x.C)])∧(d 6=true→d 7=false→∃g,vs 6= .slice (some ⟨g,0,none⟩) 1 1∧Mm [b] w W [(b,108,s.C ln),(b3,38,x.C),(g,38,x.C)])∧
 (d 7=true→Ap w W b ln (vs 7) L x∧(d 10=false→Blk W b 108 (s.C ln))∧(d 10=true→Blk W b 108 (s.C (vs 7))))
theorem S3.loc {w:World} {b b3:Nat} {s:Lo} {ln:Value} {L:List Wi} {x:Wi} :∀d d' vs vs' W,(∀i∈ [6,7,10],d i=d' i∧vs i=vs' i)→S3 w b b3 s ln L x d vs W→S3 w b b3 s ln L x d' vs' W:=by
 intro d d' vs vs' W H h
 obtain⟨e0,e1⟩:=H 6 (by simp)
 obtain⟨e2,e3⟩:=H 7 (by simp)
 obtain⟨e4,e5⟩:=H 10 (by simp)
 unfold S3 at h⊢
 rw [← e0,← e1,← e2,← e3,← e4]
 exact h
theorem S3.at {w W:World} {b b3:Nat} {s:Lo} {ln:Value} {L:List Wi} {x:Wi} {d:Nat→Bool} {vs:Nat→Value} (h:S3 w b b3 s ln L x d vs W) (h7:d 7=false):Blk W b 108 (s.C ln)∧Blk W b3 38 x.C:=by
 cases hd:d 6 with
 | false=>exact ⟨(h.1 hd h7).at 0 _ rfl,(h.1 hd h7).at 1 _ rfl⟩
 | true=>obtain ⟨g,_,hM⟩:=h.2.1 hd h7;exact⟨hM.at 0 _ rfl,hM.at 1 _ rfl⟩
theorem S3.make {w W W':World} {b b3 g:Nat} {s:Lo} {ln:Value} {L:List Wi} {x:Wi} {d:Nat→Bool} {vs:Nat→Value} (h:S3 w b b3 s ln L x d vs W) (h6:d 6=false) (h7:d 7=false) (hg:g=W.heap.size) (hB:Blk W' g 38 x.C) (hK:Kept [] W W'):S3 w b b3 s ln L x (fun i=>if i=6 then true else d i) (fun i=>if i=6 then .slice (some ⟨g,0,none⟩) 1 1 else vs i) W':=by
 refine⟨fun h9 _=>by simp at h9,fun _ _=>⟨g,by simp,(h.1 h6 h7).new hg hB hK⟩,fun h9=> ?_⟩
 simp [h7] at h9
theorem S3.app {w W W':World} {b b3:Nat} {s:Lo} {ln v:Value} {L:List Wi} {x:Wi} {d:Nat→Bool} {vs:Nat→Value} (h:S3 w b b3 s ln L x d vs W) (hB0:Blk w b 108 (s.C ln)) (hW:Ws w ln L) (h6:d 6=true) (h7:d 7=false) (h10:d 10=false) (hR:Rw W' 38 2 v (L.length+1) (wsC L++x.C)) (hK:Kept (spare ln) W W') (ho:∀k,v.ownBlock=some k→ln.ownBlock=some k∨W.heap.size≤k) (hs:∀k∈spare v,k∈spare ln∨W.heap.size≤k):
   S3 w b b3 s ln L x (fun i=>if i=7 then true else d i) (fun i=>if i=7 then v else vs i) W':=by
 obtain⟨g,_,hM⟩:=h.2.1 h6 h7
 have hsz:=hM.kept.size
 refine⟨fun _ h9=>by simp at h9,fun _ h9=>by simp at h9,fun _=>⟨⟨?_,?_,?_,?_⟩,fun _=> ?_,fun h9=>by simp [h10] at h9⟩⟩
 · show Rw _ _ _ _ _ _
   rw [wsC_app,List.length_append]
   simpa [wsC] using hR
 · exact(hM.kept.mono (by simp)).trans (hK.mono (by simp +contextual))
 · intro k hk
   simp at hk
   rcases ho k hk with h1 | h1
   · exact .inl h1
   · exact .inr (by omega)
 · intro k hk
   simp at hk
   rcases hs k hk with h1 | h1
   · exact .inl h1
   · exact .inr (by omega)
 · exact(hM.at 0 _ rfl).kept hK (fun hb=>Rw.ne hW hB0 (by decide) b (spare_own hb) (by simp))
theorem S3.store {w W W':World} {b b3:Nat} {s:Lo} {ln:Value} {L:List Wi} {x:Wi} {d:Nat→Bool} {vs:Nat→Value} {u:Value} (h:S3 w b b3 s ln L x d vs W) (h7:d 7=true) (h10:d 10=false) (hB:Blk W' b 108 (s.C (vs 7))) (hK:Kept [b] W W'):S3 w b b3 s ln L x (fun i=>if i=10 then true else d i) (fun i=>if i=10 then u else vs i) W':=by
 obtain⟨hA,hb,_⟩:=h.2.2 h7
 refine⟨fun _ h9=>by simp [h7] at h9,fun _ h9=>by simp [h7] at h9,fun _=>⟨⟨?_,?_,?_⟩,fun h9=>by simp at h9,fun _=>by simpa using hB⟩⟩
 · exact hA.row.kept hK (Rw.ne hA.row (hb h10) (by decide))
 · exact hA.kept.trans (hK.mono (by simp))
 · exact hA.grw
theorem ask_c (s:Lo) (ln:Value) (b:Nat) (L:List Wi) (x:Wi) (w:World) (h:Blk w b 108 (s.C ln)) (hW:Ws w ln L) (_hL:L.length≤900) (hx:x.Ok) (hc:s.wi=x):Calls Try.prog 75 #[P0 b,aggV x.C] w (LC b ln w (s,L,[])):=by
 have M:=hide (Mm.one h)
 have HB0:=hide h
 have HW:=hide hW
 have P46:∀W,Hid (Calls Try.prog 76 #[.int .i64 x.n] W fun e w'=>e= .returned (.bool true)∧w'=W):=fun W=>hide (by have h9:=isNode46 x.n W;rw [show isN (x.n:Int)=true by have:=hx.1;simp [isN];omega] at h9;exact h9)
 have HC:Hid (decide (s.wi=x)=true):=by simpa [Hid] using hc
 clear h hW hc
 go_enter Try.func75,Try.ntmps75
 go_wp2_with (first |(refine wpBoxV rfl (.tmp 1) rfl x.C rfl ?_;intro W1 b3 e1 B1 K1;replace M:=hide ((unhide M).new e1 B1 K1);clear e1 B1 K1;refine Stp.go ?_))
 constructor
 go_wp2_with fail
 refine wp_region_any mixed (wpAny_tq 24 rfl (by kernel_rfl) [some (P0 b),some (.bool false),some (.bool false),some (P0 b3),some (.int .i64 x.n),some (.bool true),some (.bool false),some (.bool false),some (.bool false),some (P0 b),some (P0 b),some (.pointer (some ⟨b,28,none⟩)),some (aggV (Wi.C (Lo.wi s))),some (aggV x.C),some (.bool true),some (.bool true),some (.bool true),none,none,none,none,none,none,some (.bool true)] rfl (by kernel_rfl) (by kernel_rfl) ?_ ?_)
 · intro i o' hi hsk ho a' w2 hout hin hk2
   replace hk2:Kept [] W1 w2:=ud hk2
   match i,ho,hsk with
   | 0,ho,hsk=>
     cases ho
     exact wp_move (.tmp 0) rfl _ ((ho9 hout 0).trans rfl) (tE rfl)
   | 1,ho,hsk=>
     cases ho
     have e0:a'.eval (.tmp 5)=P0 b:=is_tq (hi9 hin 0 5) rfl
     refine wp_callF 68 _ _ rfl #[P0 b] (by simp [e0]) (cg40 _ _) ((none40 s ln b _ (((unhide M).step hk2).at 0 _ rfl)).mono ?_)
     rintro e w3 ⟨rfl,rfl⟩
     exact⟨_,rfl,_,rfl,tq_is _ _ _ _ rfl,Kept.refl _ _,fun _ _ _ _ _=>trivial⟩
   | 2,ho,hsk=>
     cases ho
     exact wp_move (.tmp 6) rfl _ (is_tq (hi9 hin 1 6) rfl) (tE rfl)
   | 3,ho,hsk=>
     cases ho
     exact o_fld41_0 (.tmp 3) rfl b3 (0) (0) rfl ((ho9 hout 3).trans rfl) (tE rfl)
   | 4,ho,hsk=>
     cases ho
     exact o_load3 (.tmp 8) rfl _ _ (is_tq (hi9 hin 3 8) rfl) (fits_cell (((unhide M).step hk2).at 1 _ rfl) 0 _ rfl) (tE rfl)
   | 5,ho,hsk=>
     cases ho
     have e0:a'.eval (.tmp 9)= .int .i64 x.n:=is_tq (hi9 hin 4 9) rfl
     refine wp_callF 76 _ _ rfl #[.int .i64 x.n] (by simp [e0]) (cg46 _ _) ((unhide (P46 _)).mono ?_)
     rintro e w3 ⟨rfl,rfl⟩
     exact⟨_,rfl,_,rfl,tq_is _ _ _ _ rfl,Kept.refl _ _,fun _ _ _ _ _=>trivial⟩
   | 6,ho,hsk=>
     cases ho
     exact o_not (.tmp 10) rfl (true) (is_tq (hi9 hin 5 10) rfl) (tE rfl)
   | 7,ho,hsk=>
     cases ho
     exact o_pickOr0 (.tmp 7) (.tmp 11) rfl _ (is_tq (hi9 hin 2 7) rfl) (is_tq (hi9 hin 6 11) rfl) (tE rfl)
   | 8,ho,hsk=>
     cases ho
     exact wp_move (.tmp 12) rfl _ (is_tq (hi9 hin 7 12) rfl) (tE rfl)
   | 9,ho,hsk=>
     cases ho
     exact wp_move (.tmp 0) rfl _ ((ho9 hout 0).trans rfl) (tE rfl)
   | 10,ho,hsk=>
     cases ho
     exact o_nil (.tmp 14) rfl _ (is_tq (hi9 hin 9 14) rfl) (tE rfl)
   | 11,ho,hsk=>
     cases ho
     exact o_fld75_7 (.tmp 15) rfl b (0) (28) rfl (is_tq (hi9 hin 10 15) rfl) (tE rfl)
   | 12,ho,hsk=>
     cases ho
     exact wp_loadA row41 (.tmp 16) rfl b (28) (is_tq (hi9 hin 11 16) rfl) (Wi.C (Lo.wi s)) rfl (Blk.hand (((unhide M).step hk2).at 0 _ rfl)) (tE rfl)
   | 13,ho,hsk=>
     cases ho
     exact wp_loadA row41 (.tmp 3) rfl b3 (0) ((ho9 hout 3).trans rfl) (x.C) rfl ((((unhide M).step hk2).at 1 _ rfl).range) (tE rfl)
   | 14,ho,hsk=>
     cases ho
     exact o_eqlA 38 38 guard41 (.tmp 17) (.tmp 18) rfl (Wi.C (Lo.wi s)) (x.C) (is_tq (hi9 hin 12 17) rfl) (is_tq (hi9 hin 13 18) rfl) true ((eqW41 _ _ _).trans (by rw [unhide HC])) (tE rfl)
   | 15,ho,hsk=>
     cases ho
     exact o_pickOr0 (.tmp 13) (.tmp 19) rfl _ (is_tq (hi9 hin 8 13) rfl) (is_tq (hi9 hin 14 19) rfl) (tE rfl)
   | 16,ho,hsk=>
     cases ho
     exact wp_move (.tmp 20) rfl _ (is_tq (hi9 hin 15 20) rfl) (tE rfl)
   | 17,ho,hsk=>
     cases hsk
   | 18,ho,hsk=>
     cases hsk
   | 19,ho,hsk=>
     cases hsk
   | 20,ho,hsk=>
     cases hsk
   | 21,ho,hsk=>
     cases hsk
   | 22,ho,hsk=>
     cases hsk
   | 23,ho,hsk=>
     cases ho
     exact o_pickOrT (.tmp 21) (.tmp 27) rfl (is_tq (hi9 hin 16 21) rfl) (tE rfl)
 intro w9 hk9
 replace hk9:Kept [] W1 w9:=ud hk9
 simp only [valsQ,List.map_cons,List.map_nil,Option.getD_some,Option.getD_none,List.take_succ_cons,List.take_zero,putAll,Act.put,List.setIfInBounds_toArray,List.set_cons_succ,List.set_cons_zero]
 refine wpAny_done (by kernel_rfl) ?_ _
 replace M:=hide ((unhide M).step hk9)
 clear hk9
 go_wp2_with fail
 go_ret
 have hM:=unhide M
 exact⟨_,ln,rfl,New.nil _ _ _ _,hM.at 0 _ rfl,(unhide HW).kept hM.kept (Rw.ne (unhide HW) (unhide HB0) (by decide)),hM.kept.mono (by simp),Grw.refl _ _⟩
theorem ask_d (s:Lo) (ln:Value) (b:Nat) (L:List Wi) (x:Wi) (w:World) (h:Blk w b 108 (s.C ln)) (hW:Ws w ln L) (hL:L.length≤900) (hx:x.Ok) (hc:¬s.wi=x) (hd:x∈L):Calls Try.prog 75 #[P0 b,aggV x.C] w (LC b ln w (s,L,[])):=by
 have M:=hide (Mm.one h)
 have HB0:=hide h
 have HW:=hide hW
 have P46:∀W,Hid (Calls Try.prog 76 #[.int .i64 x.n] W fun e w'=>e= .returned (.bool true)∧w'=W):=fun W=>hide (by have h9:=isNode46 x.n W;rw [show isN (x.n:Int)=true by have:=hx.1;simp [isN];omega] at h9;exact h9)
 have P66:∀W,Kept [b] w W→Hid (Calls Try.prog 92 #[ln,aggV x.C] W fun e w'=>e= .returned (.bool true)∧Kept [] W w'):=fun W hk=>hide (by have h9:=contains66 L x ln W (hW.kept hk (Rw.ne hW h (by decide))) (by omega);rw [show decide (x∈L)=true by simpa using hd] at h9;exact h9)
 have HC:Hid (decide (s.wi=x)=false):=by simpa [Hid] using hc
 clear h hW hc
 go_enter Try.func75,Try.ntmps75
 go_wp2_with (first |(refine wpBoxV rfl (.tmp 1) rfl x.C rfl ?_;intro W1 b3 e1 B1 K1;replace M:=hide ((unhide M).new e1 B1 K1);clear e1 B1 K1;refine Stp.go ?_))
 constructor
 go_wp2_with fail
 refine wp_region_any mixed (wpAny_tq 24 rfl (by kernel_rfl) [some (P0 b),some (.bool false),some (.bool false),some (P0 b3),some (.int .i64 x.n),some (.bool true),some (.bool false),some (.bool false),some (.bool false),some (P0 b),some (P0 b),some (.pointer (some ⟨b,28,none⟩)),some (aggV (Wi.C (Lo.wi s))),some (aggV x.C),some (.bool false),some (.bool false),some (.bool false),some (P0 b),some (P0 b),some (.pointer (some ⟨b,27,none⟩)),some (ln),some (aggV x.C),some (.bool true),some (.bool true)] rfl (by kernel_rfl) (by kernel_rfl) ?_ ?_)
 · intro i o' hi hsk ho a' w2 hout hin hk2
   replace hk2:Kept [] W1 w2:=ud hk2
   match i,ho,hsk with
   | 0,ho,hsk=>
     cases ho
     exact wp_move (.tmp 0) rfl _ ((ho9 hout 0).trans rfl) (tE rfl)
   | 1,ho,hsk=>
     cases ho
     have e0:a'.eval (.tmp 5)=P0 b:=is_tq (hi9 hin 0 5) rfl
     refine wp_callF 68 _ _ rfl #[P0 b] (by simp [e0]) (cg40 _ _) ((none40 s ln b _ (((unhide M).step hk2).at 0 _ rfl)).mono ?_)
     rintro e w3 ⟨rfl,rfl⟩
     exact⟨_,rfl,_,rfl,tq_is _ _ _ _ rfl,Kept.refl _ _,fun _ _ _ _ _=>trivial⟩
   | 2,ho,hsk=>
     cases ho
     exact wp_move (.tmp 6) rfl _ (is_tq (hi9 hin 1 6) rfl) (tE rfl)
   | 3,ho,hsk=>
     cases ho
     exact o_fld41_0 (.tmp 3) rfl b3 (0) (0) rfl ((ho9 hout 3).trans rfl) (tE rfl)
   | 4,ho,hsk=>
     cases ho
     exact o_load3 (.tmp 8) rfl _ _ (is_tq (hi9 hin 3 8) rfl) (fits_cell (((unhide M).step hk2).at 1 _ rfl) 0 _ rfl) (tE rfl)
   | 5,ho,hsk=>
     cases ho
     have e0:a'.eval (.tmp 9)= .int .i64 x.n:=is_tq (hi9 hin 4 9) rfl
     refine wp_callF 76 _ _ rfl #[.int .i64 x.n] (by simp [e0]) (cg46 _ _) ((unhide (P46 _)).mono ?_)
     rintro e w3 ⟨rfl,rfl⟩
     exact⟨_,rfl,_,rfl,tq_is _ _ _ _ rfl,Kept.refl _ _,fun _ _ _ _ _=>trivial⟩
   | 6,ho,hsk=>
     cases ho
     exact o_not (.tmp 10) rfl (true) (is_tq (hi9 hin 5 10) rfl) (tE rfl)
   | 7,ho,hsk=>
     cases ho
     exact o_pickOr0 (.tmp 7) (.tmp 11) rfl _ (is_tq (hi9 hin 2 7) rfl) (is_tq (hi9 hin 6 11) rfl) (tE rfl)
   | 8,ho,hsk=>
     cases ho
     exact wp_move (.tmp 12) rfl _ (is_tq (hi9 hin 7 12) rfl) (tE rfl)
   | 9,ho,hsk=>
     cases ho
     exact wp_move (.tmp 0) rfl _ ((ho9 hout 0).trans rfl) (tE rfl)
   | 10,ho,hsk=>
     cases ho
     exact o_nil (.tmp 14) rfl _ (is_tq (hi9 hin 9 14) rfl) (tE rfl)
   | 11,ho,hsk=>
     cases ho
     exact o_fld75_7 (.tmp 15) rfl b (0) (28) rfl (is_tq (hi9 hin 10 15) rfl) (tE rfl)
   | 12,ho,hsk=>
     cases ho
     exact wp_loadA row41 (.tmp 16) rfl b (28) (is_tq (hi9 hin 11 16) rfl) (Wi.C (Lo.wi s)) rfl (Blk.hand (((unhide M).step hk2).at 0 _ rfl)) (tE rfl)
   | 13,ho,hsk=>
     cases ho
     exact wp_loadA row41 (.tmp 3) rfl b3 (0) ((ho9 hout 3).trans rfl) (x.C) rfl ((((unhide M).step hk2).at 1 _ rfl).range) (tE rfl)
   | 14,ho,hsk=>
     cases ho
     exact o_eqlA 38 38 guard41 (.tmp 17) (.tmp 18) rfl (Wi.C (Lo.wi s)) (x.C) (is_tq (hi9 hin 12 17) rfl) (is_tq (hi9 hin 13 18) rfl) false ((eqW41 _ _ _).trans (by rw [unhide HC])) (tE rfl)
   | 15,ho,hsk=>
     cases ho
     exact o_pickOr0 (.tmp 13) (.tmp 19) rfl _ (is_tq (hi9 hin 8 13) rfl) (is_tq (hi9 hin 14 19) rfl) (tE rfl)
   | 16,ho,hsk=>
     cases ho
     exact wp_move (.tmp 20) rfl _ (is_tq (hi9 hin 15 20) rfl) (tE rfl)
   | 17,ho,hsk=>
     cases ho
     exact wp_move (.tmp 0) rfl _ ((ho9 hout 0).trans rfl) (tE rfl)
   | 18,ho,hsk=>
     cases ho
     exact o_nil (.tmp 22) rfl _ (is_tq (hi9 hin 17 22) rfl) (tE rfl)
   | 19,ho,hsk=>
     cases ho
     exact o_fld75_6 (.tmp 23) rfl b (0) (27) rfl (is_tq (hi9 hin 18 23) rfl) (tE rfl)
   | 20,ho,hsk=>
     cases ho
     exact o_load38 (.tmp 24) rfl _ _ (is_tq (hi9 hin 19 24) rfl) (fits_cell (((unhide M).step hk2).at 0 _ rfl) 27 _ rfl) (tE rfl)
   | 21,ho,hsk=>
     cases ho
     exact wp_loadA row41 (.tmp 3) rfl b3 (0) ((ho9 hout 3).trans rfl) (x.C) rfl ((((unhide M).step hk2).at 1 _ rfl).range) (tE rfl)
   | 22,ho,hsk=>
     cases ho
     have e0:a'.eval (.tmp 25)=ln:=is_tq (hi9 hin 20 25) rfl
     have e1:a'.eval (.tmp 26)=aggV x.C:=is_tq (hi9 hin 21 26) rfl
     refine wp_callF 92 _ _ rfl #[ln,aggV x.C] (by simp [e0,e1]) (cg66 _ _) ((unhide (P66 _ ((((unhide M).step hk2)).kept))).mono ?_)
     rintro e w3 ⟨rfl,hk3⟩
     exact⟨_,rfl,_,rfl,tq_is _ _ _ _ rfl,hk3,fun _ _ _ _ _=>trivial⟩
   | 23,ho,hsk=>
     cases ho
     exact o_pickOr0 (.tmp 21) (.tmp 27) rfl _ (is_tq (hi9 hin 16 21) rfl) (is_tq (hi9 hin 22 27) rfl) (tE rfl)
 intro w9 hk9
 replace hk9:Kept [] W1 w9:=ud hk9
 simp only [valsQ,List.map_cons,List.map_nil,Option.getD_some,List.take_succ_cons,List.take_zero,putAll,Act.put,List.setIfInBounds_toArray,List.set_cons_succ,List.set_cons_zero]
 refine wpAny_done (by kernel_rfl) ?_ _
 replace M:=hide ((unhide M).step hk9)
 clear hk9
 go_wp2_with fail
 go_ret
 have hM:=unhide M
 exact⟨_,ln,rfl,New.nil _ _ _ _,hM.at 0 _ rfl,(unhide HW).kept hM.kept (Rw.ne (unhide HW) (unhide HB0) (by decide)),hM.kept.mono (by simp),Grw.refl _ _⟩
theorem ask_b (s:Lo) (ln:Value) (b:Nat) (L:List Wi) (m k:Int) (w:World) (h:Blk w b 108 (s.C ln)) (hW:Ws w ln L) (hm:isN m=false):Calls Try.prog 75 #[P0 b,aggV [.int .i64 m,.int .i64 k]] w (LC b ln w (s,L,[])):=by
 have M:=hide (Mm.one h)
 have HB0:=hide h
 have HW:=hide hW
 have P46:∀W,Hid (Calls Try.prog 76 #[.int .i64 m] W fun e w'=>e= .returned (.bool false)∧w'=W):=fun W=>hide (by have h9:=isNode46 m W;rw [hm] at h9;exact h9)
 clear h hW
 go_enter Try.func75,Try.ntmps75
 go_wp2_with (first |(refine wpBoxV rfl (.tmp 1) rfl [.int .i64 m,.int .i64 k] rfl ?_;intro W1 b3 e1 B1 K1;replace M:=hide ((unhide M).new e1 B1 K1);clear e1 B1 K1;refine Stp.go ?_))
 constructor
 go_wp2_with fail
 refine wp_region_any mixed (wpAny_tq 24 rfl (by kernel_rfl) [some (P0 b),some (.bool false),some (.bool false),some (P0 b3),some (.int .i64 m),some (.bool false),some (.bool true),some (.bool true),some (.bool true),none,none,none,none,none,none,some (.bool true),some (.bool true),none,none,none,none,none,none,some (.bool true)] rfl (by kernel_rfl) (by kernel_rfl) ?_ ?_)
 · intro i o' hi hsk ho a' w2 hout hin hk2
   replace hk2:Kept [] W1 w2:=ud hk2
   match i,ho,hsk with
   | 0,ho,hsk=>
     cases ho
     exact wp_move (.tmp 0) rfl _ ((ho9 hout 0).trans rfl) (tE rfl)
   | 1,ho,hsk=>
     cases ho
     have e0:a'.eval (.tmp 5)=P0 b:=is_tq (hi9 hin 0 5) rfl
     refine wp_callF 68 _ _ rfl #[P0 b] (by simp [e0]) (cg40 _ _) ((none40 s ln b _ (((unhide M).step hk2).at 0 _ rfl)).mono ?_)
     rintro e w3 ⟨rfl,rfl⟩
     exact⟨_,rfl,_,rfl,tq_is _ _ _ _ rfl,Kept.refl _ _,fun _ _ _ _ _=>trivial⟩
   | 2,ho,hsk=>
     cases ho
     exact wp_move (.tmp 6) rfl _ (is_tq (hi9 hin 1 6) rfl) (tE rfl)
   | 3,ho,hsk=>
     cases ho
     exact o_fld41_0 (.tmp 3) rfl b3 (0) (0) rfl ((ho9 hout 3).trans rfl) (tE rfl)
   | 4,ho,hsk=>
     cases ho
     exact o_load3 (.tmp 8) rfl _ _ (is_tq (hi9 hin 3 8) rfl) (fits_cell (((unhide M).step hk2).at 1 _ rfl) 0 _ rfl) (tE rfl)
   | 5,ho,hsk=>
     cases ho
     have e0:a'.eval (.tmp 9)= .int .i64 m:=is_tq (hi9 hin 4 9) rfl
     refine wp_callF 76 _ _ rfl #[.int .i64 m] (by simp [e0]) (cg46 _ _) ((unhide (P46 _)).mono ?_)
     rintro e w3 ⟨rfl,rfl⟩
     exact⟨_,rfl,_,rfl,tq_is _ _ _ _ rfl,Kept.refl _ _,fun _ _ _ _ _=>trivial⟩
   | 6,ho,hsk=>
     cases ho
     exact o_not (.tmp 10) rfl (false) (is_tq (hi9 hin 5 10) rfl) (tE rfl)
   | 7,ho,hsk=>
     cases ho
     exact o_pickOr0 (.tmp 7) (.tmp 11) rfl _ (is_tq (hi9 hin 2 7) rfl) (is_tq (hi9 hin 6 11) rfl) (tE rfl)
   | 8,ho,hsk=>
     cases ho
     exact wp_move (.tmp 12) rfl _ (is_tq (hi9 hin 7 12) rfl) (tE rfl)
   | 9,ho,hsk=>
     cases hsk
   | 10,ho,hsk=>
     cases hsk
   | 11,ho,hsk=>
     cases hsk
   | 12,ho,hsk=>
     cases hsk
   | 13,ho,hsk=>
     cases hsk
   | 14,ho,hsk=>
     cases hsk
   | 15,ho,hsk=>
     cases ho
     exact o_pickOrT (.tmp 13) (.tmp 19) rfl (is_tq (hi9 hin 8 13) rfl) (tE rfl)
   | 16,ho,hsk=>
     cases ho
     exact wp_move (.tmp 20) rfl _ (is_tq (hi9 hin 15 20) rfl) (tE rfl)
   | 17,ho,hsk=>
     cases hsk
   | 18,ho,hsk=>
     cases hsk
   | 19,ho,hsk=>
     cases hsk
   | 20,ho,hsk=>
     cases hsk
   | 21,ho,hsk=>
     cases hsk
   | 22,ho,hsk=>
     cases hsk
   | 23,ho,hsk=>
     cases ho
     exact o_pickOrT (.tmp 21) (.tmp 27) rfl (is_tq (hi9 hin 16 21) rfl) (tE rfl)
 intro w9 hk9
 replace hk9:Kept [] W1 w9:=ud hk9
 simp only [valsQ,List.map_cons,List.map_nil,Option.getD_some,Option.getD_none,List.take_succ_cons,List.take_zero,putAll,Act.put,List.setIfInBounds_toArray,List.set_cons_succ,List.set_cons_zero]
 refine wpAny_done (by kernel_rfl) ?_ _
 replace M:=hide ((unhide M).step hk9)
 clear hk9
 go_wp2_with fail
 go_ret
 have hM:=unhide M
 exact⟨_,ln,rfl,New.nil _ _ _ _,hM.at 0 _ rfl,(unhide HW).kept hM.kept (Rw.ne (unhide HW) (unhide HB0) (by decide)),hM.kept.mono (by simp),Grw.refl _ _⟩
theorem ask_e (s:Lo) (ln:Value) (b:Nat) (L:List Wi) (x:Wi) (w:World) (h:Blk w b 108 (s.C ln)) (hW:Ws w ln L) (hL:L.length≤900) (hx:x.Ok) (hc:¬s.wi=x) (hd:¬x∈L) (hb:s.busy=true):Calls Try.prog 75 #[P0 b,aggV x.C] w (LC b ln w (s,L++ [x],[])):=by
 have M:=hide (Mm.one h)
 have HB0:=hide h
 have HW:=hide hW
 have P46:∀W,Hid (Calls Try.prog 76 #[.int .i64 x.n] W fun e w'=>e= .returned (.bool true)∧w'=W):=fun W=>hide (by have h9:=isNode46 x.n W;rw [show isN (x.n:Int)=true by have:=hx.1;simp [isN];omega] at h9;exact h9)
 have P66:∀W,Kept [b] w W→Hid (Calls Try.prog 92 #[ln,aggV x.C] W fun e w'=>e= .returned (.bool false)∧Kept [] W w'):=fun W hk=>hide (by have h9:=contains66 L x ln W (hW.kept hk (Rw.ne hW h (by decide))) (by omega);rw [show decide (x∈L)=false by simpa using hd] at h9;exact h9)
 have HC:Hid (decide (s.wi=x)=false):=by simpa [Hid] using hc
 have HBz:=hide hb
 clear h hW hc hd hb
 go_enter Try.func75,Try.ntmps75
 go_wp2_with (first |(refine wpBoxV rfl (.tmp 1) rfl x.C rfl ?_;intro W1 b3 e1 B1 K1;replace M:=hide ((unhide M).new e1 B1 K1);clear e1 B1 K1;refine Stp.go ?_))
 constructor
 go_wp2_with fail
 refine wp_region_any mixed (wpAny_tq 24 rfl (by kernel_rfl) [some (P0 b),some (.bool false),some (.bool false),some (P0 b3),some (.int .i64 x.n),some (.bool true),some (.bool false),some (.bool false),some (.bool false),some (P0 b),some (P0 b),some (.pointer (some ⟨b,28,none⟩)),some (aggV (Wi.C (Lo.wi s))),some (aggV x.C),some (.bool false),some (.bool false),some (.bool false),some (P0 b),some (P0 b),some (.pointer (some ⟨b,27,none⟩)),some (ln),some (aggV x.C),some (.bool false),some (.bool false)] rfl (by kernel_rfl) (by kernel_rfl) ?_ ?_)
 · intro i o' hi hsk ho a' w2 hout hin hk2
   replace hk2:Kept [] W1 w2:=ud hk2
   match i,ho,hsk with
   | 0,ho,hsk=>
     cases ho
     exact wp_move (.tmp 0) rfl _ ((ho9 hout 0).trans rfl) (tE rfl)
   | 1,ho,hsk=>
     cases ho
     have e0:a'.eval (.tmp 5)=P0 b:=is_tq (hi9 hin 0 5) rfl
     refine wp_callF 68 _ _ rfl #[P0 b] (by simp [e0]) (cg40 _ _) ((none40 s ln b _ (((unhide M).step hk2).at 0 _ rfl)).mono ?_)
     rintro e w3 ⟨rfl,rfl⟩
     exact⟨_,rfl,_,rfl,tq_is _ _ _ _ rfl,Kept.refl _ _,fun _ _ _ _ _=>trivial⟩
   | 2,ho,hsk=>
     cases ho
     exact wp_move (.tmp 6) rfl _ (is_tq (hi9 hin 1 6) rfl) (tE rfl)
   | 3,ho,hsk=>
     cases ho
     exact o_fld41_0 (.tmp 3) rfl b3 (0) (0) rfl ((ho9 hout 3).trans rfl) (tE rfl)
   | 4,ho,hsk=>
     cases ho
     exact o_load3 (.tmp 8) rfl _ _ (is_tq (hi9 hin 3 8) rfl) (fits_cell (((unhide M).step hk2).at 1 _ rfl) 0 _ rfl) (tE rfl)
   | 5,ho,hsk=>
     cases ho
     have e0:a'.eval (.tmp 9)= .int .i64 x.n:=is_tq (hi9 hin 4 9) rfl
     refine wp_callF 76 _ _ rfl #[.int .i64 x.n] (by simp [e0]) (cg46 _ _) ((unhide (P46 _)).mono ?_)
     rintro e w3 ⟨rfl,rfl⟩
     exact⟨_,rfl,_,rfl,tq_is _ _ _ _ rfl,Kept.refl _ _,fun _ _ _ _ _=>trivial⟩
   | 6,ho,hsk=>
     cases ho
     exact o_not (.tmp 10) rfl (true) (is_tq (hi9 hin 5 10) rfl) (tE rfl)
   | 7,ho,hsk=>
     cases ho
     exact o_pickOr0 (.tmp 7) (.tmp 11) rfl _ (is_tq (hi9 hin 2 7) rfl) (is_tq (hi9 hin 6 11) rfl) (tE rfl)
   | 8,ho,hsk=>
     cases ho
     exact wp_move (.tmp 12) rfl _ (is_tq (hi9 hin 7 12) rfl) (tE rfl)
   | 9,ho,hsk=>
     cases ho
     exact wp_move (.tmp 0) rfl _ ((ho9 hout 0).trans rfl) (tE rfl)
   | 10,ho,hsk=>
     cases ho
     exact o_nil (.tmp 14) rfl _ (is_tq (hi9 hin 9 14) rfl) (tE rfl)
   | 11,ho,hsk=>
     cases ho
     exact o_fld75_7 (.tmp 15) rfl b (0) (28) rfl (is_tq (hi9 hin 10 15) rfl) (tE rfl)
   | 12,ho,hsk=>
     cases ho
     exact wp_loadA row41 (.tmp 16) rfl b (28) (is_tq (hi9 hin 11 16) rfl) (Wi.C (Lo.wi s)) rfl (Blk.hand (((unhide M).step hk2).at 0 _ rfl)) (tE rfl)
   | 13,ho,hsk=>
     cases ho
     exact wp_loadA row41 (.tmp 3) rfl b3 (0) ((ho9 hout 3).trans rfl) (x.C) rfl ((((unhide M).step hk2).at 1 _ rfl).range) (tE rfl)
   | 14,ho,hsk=>
     cases ho
     exact o_eqlA 38 38 guard41 (.tmp 17) (.tmp 18) rfl (Wi.C (Lo.wi s)) (x.C) (is_tq (hi9 hin 12 17) rfl) (is_tq (hi9 hin 13 18) rfl) false ((eqW41 _ _ _).trans (by rw [unhide HC])) (tE rfl)
   | 15,ho,hsk=>
     cases ho
     exact o_pickOr0 (.tmp 13) (.tmp 19) rfl _ (is_tq (hi9 hin 8 13) rfl) (is_tq (hi9 hin 14 19) rfl) (tE rfl)
   | 16,ho,hsk=>
     cases ho
     exact wp_move (.tmp 20) rfl _ (is_tq (hi9 hin 15 20) rfl) (tE rfl)
   | 17,ho,hsk=>
     cases ho
     exact wp_move (.tmp 0) rfl _ ((ho9 hout 0).trans rfl) (tE rfl)
   | 18,ho,hsk=>
     cases ho
     exact o_nil (.tmp 22) rfl _ (is_tq (hi9 hin 17 22) rfl) (tE rfl)
   | 19,ho,hsk=>
     cases ho
     exact o_fld75_6 (.tmp 23) rfl b (0) (27) rfl (is_tq (hi9 hin 18 23) rfl) (tE rfl)
   | 20,ho,hsk=>
     cases ho
     exact o_load38 (.tmp 24) rfl _ _ (is_tq (hi9 hin 19 24) rfl) (fits_cell (((unhide M).step hk2).at 0 _ rfl) 27 _ rfl) (tE rfl)
   | 21,ho,hsk=>
     cases ho
     exact wp_loadA row41 (.tmp 3) rfl b3 (0) ((ho9 hout 3).trans rfl) (x.C) rfl ((((unhide M).step hk2).at 1 _ rfl).range) (tE rfl)
   | 22,ho,hsk=>
     cases ho
     have e0:a'.eval (.tmp 25)=ln:=is_tq (hi9 hin 20 25) rfl
     have e1:a'.eval (.tmp 26)=aggV x.C:=is_tq (hi9 hin 21 26) rfl
     refine wp_callF 92 _ _ rfl #[ln,aggV x.C] (by simp [e0,e1]) (cg66 _ _) ((unhide (P66 _ ((((unhide M).step hk2)).kept))).mono ?_)
     rintro e w3 ⟨rfl,hk3⟩
     exact⟨_,rfl,_,rfl,tq_is _ _ _ _ rfl,hk3,fun _ _ _ _ _=>trivial⟩
   | 23,ho,hsk=>
     cases ho
     exact o_pickOr0 (.tmp 21) (.tmp 27) rfl _ (is_tq (hi9 hin 16 21) rfl) (is_tq (hi9 hin 22 27) rfl) (tE rfl)
 intro w9 hk9
 replace hk9:Kept [] W1 w9:=ud hk9
 simp only [valsQ,List.map_cons,List.map_nil,Option.getD_some,List.take_succ_cons,List.take_zero,putAll,Act.put,List.setIfInBounds_toArray,List.set_cons_succ,List.set_cons_zero]
 refine wpAny_done (by kernel_rfl) ?_ _
 replace M:=hide ((unhide M).step hk9)
 clear hk9
 go_wp2_with fail
 refine wp_region_any mixed (wpAny_gx 11 rfl (by kernel_rfl) [some (P0 b),some (P0 b),some (P0 b),some (.pointer (some ⟨b,27,none⟩)),some (ln),some (aggV x.C),none,none,some (P0 b),some (.pointer (some ⟨b,27,none⟩)),none] rfl (by kernel_rfl) (fun l vs W=>(S3 w b b3 s ln L x) (fun i=>l.getD i false) vs W) (⟨fun _ _=>(unhide M).drew,(fun h=>by cases h),fun h=>by cases h⟩) ?_ ?_)
 · intro ix o' hi ho a' w2 l vs hls hlf hJ hout hin hdep hnot
   match ix,ho with
   | 0,ho=>
     cases ho
     have e0:=ho9 hout 0
     replace e0:a'.eval (.tmp 0)=_:=e0.trans rfl
     exact wp_move (.tmp 0) rfl _ e0 ⟨_,rfl,told_of rfl,keepG [6,7,10] S3.loc (by omega) (by decide) hJ⟩
   | 1,ho=>
     cases ho
     have e0:=ho9 hout 0
     replace e0:a'.eval (.tmp 0)=_:=e0.trans rfl
     exact wp_move (.tmp 0) rfl _ e0 ⟨_,rfl,told_of rfl,keepG [6,7,10] S3.loc (by omega) (by decide) hJ⟩
   | 2,ho=>
     cases ho
     exact o_nil (.tmp 30) rfl _ (hx9 (hi9 hin 1 30) rfl) ⟨_,rfl,told_of rfl,keepG [6,7,10] S3.loc (by omega) (by decide) hJ⟩
   | 3,ho=>
     cases ho
     exact o_fld75_6 (.tmp 31) rfl b (0) (27) rfl (hx9 (hi9 hin 2 31) rfl) ⟨_,rfl,told_of rfl,keepG [6,7,10] S3.loc (by omega) (by decide) hJ⟩
   | 4,ho=>
     cases ho
     exact o_load38 (.tmp 32) rfl _ _ (hx9 (hi9 hin 3 32) rfl) (fits_cell (S3.at hJ (ho9 hnot 7)).1 27 _ rfl) ⟨_,rfl,told_of rfl,keepG [6,7,10] S3.loc (by omega) (by decide) hJ⟩
   | 5,ho=>
     cases ho
     have e0:=ho9 hout 3
     replace e0:a'.eval (.tmp 3)=_:=e0.trans rfl
     exact wp_loadA row41 (.tmp 3) rfl b3 (0) e0 (x.C) rfl ((S3.at hJ (ho9 hnot 7)).2.range) ⟨_,rfl,told_of rfl,keepG [6,7,10] S3.loc (by omega) (by decide) hJ⟩
   | 6,ho=>
     cases ho
     have e0:a'.eval (.tmp 34)=aggV x.C:=hx9 (hi9 hin 5 34) rfl
     refine o_bs38 (.tmp 34) rfl x e0 (fun W g h1 h2 h3=> ?_)
     exact⟨_,rfl,told_no rfl,nextG (by omega) (S3.make hJ hlf (ho9 hnot 7) h1 h2 h3)⟩
   | 7,ho=>
     cases ho
     have e0:a'.eval (.tmp 33)=ln:=hx9 (hi9 hin 4 33) rfl
     have e1:a'.eval (.tmp 35)=vs 6:=(hi9 hin 6 35).1
     obtain⟨g,eg,hM⟩:=hJ.2.1 (ho9 hdep 6) hlf
     refine o_appR el38 (.tmp 33) (.tmp 35) rfl ln _ _ e0 ((unhide HW).kept hM.kept (Rw.ne (unhide HW) (unhide HB0) (by decide))) _ 1 x.C (e1.trans eg) (Rw.made (hM.at 2 _ rfl) rfl (max1000 (by omega))) (Wi.one _) (by omega) (max1000 (by omega)) (fun v9 W9 h1 h2 h3 h4=> ?_)
     exact⟨_,rfl,told_no rfl,nextG (by omega) (S3.app hJ (unhide HB0) (unhide HW) (ho9 hdep 6) hlf (ho9 hnot 10) h1 h2 h3 h4)⟩
   | 8,ho=>
     cases ho
     exact o_nil (.tmp 29) rfl _ (hx9 (hi9 hin 0 29) rfl) ⟨_,rfl,told_of rfl,keepG [6,7,10] S3.loc (by omega) (by decide) hJ⟩
   | 9,ho=>
     cases ho
     exact o_fld75_6 (.tmp 37) rfl b (0) (27) rfl (hx9 (hi9 hin 8 37) rfl) ⟨_,rfl,told_of rfl,keepG [6,7,10] S3.loc (by omega) (by decide) hJ⟩
   | 10,ho=>
     cases ho
     have e0:a'.eval (.tmp 38)= .pointer (some ⟨b,27,none⟩):=hx9 (hi9 hin 9 38) rfl
     have e1:a'.eval (.tmp 36)=vs 7:=(hi9 hin 7 36).1
     have h7:=ho9 hdep 7
     obtain⟨hA,hb,_⟩:=hJ.2.2 h7
     exact o_stB size38 (.tmp 38) (.tmp 36) rfl rfl b 27 (vs 7) hA.row.one e0 e1 (hb hlf) (show 27+1≤_ from Nat.le_of_ble_eq_true rfl) rfl (fun W h1 h2=>⟨undef,rfl,told_no rfl,nextG (by omega) (S3.store hJ h7 hlf h1 h2)⟩)
 intro l_ vs4 V4 hl hJ htold
 have t0:vs4 0=P0 b:=told_is _ (htold 0 (by decide)) rfl
 have t1:vs4 1=P0 b:=told_is _ (htold 1 (by decide)) rfl
 have t2:vs4 2=P0 b:=told_is _ (htold 2 (by decide)) rfl
 have t3:vs4 3= .pointer (some ⟨b,27,none⟩):=told_is _ (htold 3 (by decide)) rfl
 have t4:vs4 4=ln:=told_is _ (htold 4 (by decide)) rfl
 have t5:vs4 5=aggV x.C:=told_is _ (htold 5 (by decide)) rfl
 have t8:vs4 8=P0 b:=told_is _ (htold 8 (by decide)) rfl
 have t9:vs4 9= .pointer (some ⟨b,27,none⟩):=told_is _ (htold 9 (by decide)) rfl
 rw [show (List.range 11).map vs4= [vs4 0,vs4 1,vs4 2,vs4 3,vs4 4,vs4 5,vs4 6,vs4 7,vs4 8,vs4 9,vs4 10] from rfl]
 simp only [t0,t1,t2,t3,t4,t5,t8,t9,putAll,Act.put,List.setIfInBounds_toArray,List.set_cons_succ,List.set_cons_zero]
 clear t0 t1 t2 t3 t4 t5 t8 t9 htold
 obtain⟨hA,_,hb⟩:=hJ.2.2 (hl 7 (by decide))
 replace hb:=hb (hl 10 (by decide))
 generalize vs4 7=v7 at hA hb⊢
 have HA:=hide hA
 have HB:=hide hb
 clear hA hb hJ hl M
 go_wp2_with (first |(go_at_call 72;refine(busy44 s v7 b _ (unhide HB)).mono ?_;rintro e W11 ⟨rfl,q11⟩;replace q11:=q11.symm;subst q11;rw [unhide HBz];refine Stp.go ?_))
 constructor
 go_wp2_with fail
 go_ret
 exact⟨_,v7,rfl,New.nil _ _ _ _,unhide HB,(unhide HA).row,(unhide HA).kept,(unhide HA).grw⟩
theorem ask_f (s:Lo) (ln:Value) (b:Nat) (L:List Wi) (x:Wi) (w:World) (h:Blk w b 108 (s.C ln)) (hW:Ws w ln L) (hL:L.length≤900) (hx:x.Ok) (hc:¬s.wi=x) (hd:¬x∈L) (hb:s.busy=false) (hs:s.Ok) (hall:∀x∈L,x.Ok) (hop:0≤s.op∧s.op+L.length≤900000):Calls Try.prog 75 #[P0 b,aggV x.C] w (LC b ln w (nextP s (L++ [x]))):=by
 have M:=hide (Mm.one h)
 have HB0:=hide h
 have HW:=hide hW
 have P46:∀W,Hid (Calls Try.prog 76 #[.int .i64 x.n] W fun e w'=>e= .returned (.bool true)∧w'=W):=fun W=>hide (by have h9:=isNode46 x.n W;rw [show isN (x.n:Int)=true by have:=hx.1;simp [isN];omega] at h9;exact h9)
 have P66:∀W,Kept [b] w W→Hid (Calls Try.prog 92 #[ln,aggV x.C] W fun e w'=>e= .returned (.bool false)∧Kept [] W w'):=fun W hk=>hide (by have h9:=contains66 L x ln W (hW.kept hk (Rw.ne hW h (by decide))) (by omega);rw [show decide (x∈L)=false by simpa using hd] at h9;exact h9)
 have HC:Hid (decide (s.wi=x)=false):=by simpa [Hid] using hc
 have HBz:=hide hb
 have HS:=hide hs
 have HAl:Hid (∀y∈L++ [x],y.Ok):=by intro y hy;rcases List.mem_append.1 hy with h1 | h1;exact hall y h1;simp at h1;subst h1;exact hx
 have HOp:Hid (0≤s.op∧s.op+(L++ [x]).length≤1000000):=by show _∧_;rw [List.length_append];simp;omega
 clear hs hall hop
 clear h hW hc hd hb
 go_enter Try.func75,Try.ntmps75
 go_wp2_with (first |(refine wpBoxV rfl (.tmp 1) rfl x.C rfl ?_;intro W1 b3 e1 B1 K1;replace M:=hide ((unhide M).new e1 B1 K1);clear e1 B1 K1;refine Stp.go ?_))
 constructor
 go_wp2_with fail
 refine wp_region_any mixed (wpAny_tq 24 rfl (by kernel_rfl) [some (P0 b),some (.bool false),some (.bool false),some (P0 b3),some (.int .i64 x.n),some (.bool true),some (.bool false),some (.bool false),some (.bool false),some (P0 b),some (P0 b),some (.pointer (some ⟨b,28,none⟩)),some (aggV (Wi.C (Lo.wi s))),some (aggV x.C),some (.bool false),some (.bool false),some (.bool false),some (P0 b),some (P0 b),some (.pointer (some ⟨b,27,none⟩)),some (ln),some (aggV x.C),some (.bool false),some (.bool false)] rfl (by kernel_rfl) (by kernel_rfl) ?_ ?_)
 · intro i o' hi hsk ho a' w2 hout hin hk2
   replace hk2:Kept [] W1 w2:=ud hk2
   match i,ho,hsk with
   | 0,ho,hsk=>
     cases ho
     exact wp_move (.tmp 0) rfl _ ((ho9 hout 0).trans rfl) (tE rfl)
   | 1,ho,hsk=>
     cases ho
     have e0:a'.eval (.tmp 5)=P0 b:=is_tq (hi9 hin 0 5) rfl
     refine wp_callF 68 _ _ rfl #[P0 b] (by simp [e0]) (cg40 _ _) ((none40 s ln b _ (((unhide M).step hk2).at 0 _ rfl)).mono ?_)
     rintro e w3 ⟨rfl,rfl⟩
     exact⟨_,rfl,_,rfl,tq_is _ _ _ _ rfl,Kept.refl _ _,fun _ _ _ _ _=>trivial⟩
   | 2,ho,hsk=>
     cases ho
     exact wp_move (.tmp 6) rfl _ (is_tq (hi9 hin 1 6) rfl) (tE rfl)
   | 3,ho,hsk=>
     cases ho
     exact o_fld41_0 (.tmp 3) rfl b3 (0) (0) rfl ((ho9 hout 3).trans rfl) (tE rfl)
   | 4,ho,hsk=>
     cases ho
     exact o_load3 (.tmp 8) rfl _ _ (is_tq (hi9 hin 3 8) rfl) (fits_cell (((unhide M).step hk2).at 1 _ rfl) 0 _ rfl) (tE rfl)
   | 5,ho,hsk=>
     cases ho
     have e0:a'.eval (.tmp 9)= .int .i64 x.n:=is_tq (hi9 hin 4 9) rfl
     refine wp_callF 76 _ _ rfl #[.int .i64 x.n] (by simp [e0]) (cg46 _ _) ((unhide (P46 _)).mono ?_)
     rintro e w3 ⟨rfl,rfl⟩
     exact⟨_,rfl,_,rfl,tq_is _ _ _ _ rfl,Kept.refl _ _,fun _ _ _ _ _=>trivial⟩
   | 6,ho,hsk=>
     cases ho
     exact o_not (.tmp 10) rfl (true) (is_tq (hi9 hin 5 10) rfl) (tE rfl)
   | 7,ho,hsk=>
     cases ho
     exact o_pickOr0 (.tmp 7) (.tmp 11) rfl _ (is_tq (hi9 hin 2 7) rfl) (is_tq (hi9 hin 6 11) rfl) (tE rfl)
   | 8,ho,hsk=>
     cases ho
     exact wp_move (.tmp 12) rfl _ (is_tq (hi9 hin 7 12) rfl) (tE rfl)
   | 9,ho,hsk=>
     cases ho
     exact wp_move (.tmp 0) rfl _ ((ho9 hout 0).trans rfl) (tE rfl)
   | 10,ho,hsk=>
     cases ho
     exact o_nil (.tmp 14) rfl _ (is_tq (hi9 hin 9 14) rfl) (tE rfl)
   | 11,ho,hsk=>
     cases ho
     exact o_fld75_7 (.tmp 15) rfl b (0) (28) rfl (is_tq (hi9 hin 10 15) rfl) (tE rfl)
   | 12,ho,hsk=>
     cases ho
     exact wp_loadA row41 (.tmp 16) rfl b (28) (is_tq (hi9 hin 11 16) rfl) (Wi.C (Lo.wi s)) rfl (Blk.hand (((unhide M).step hk2).at 0 _ rfl)) (tE rfl)
   | 13,ho,hsk=>
     cases ho
     exact wp_loadA row41 (.tmp 3) rfl b3 (0) ((ho9 hout 3).trans rfl) (x.C) rfl ((((unhide M).step hk2).at 1 _ rfl).range) (tE rfl)
   | 14,ho,hsk=>
     cases ho
     exact o_eqlA 38 38 guard41 (.tmp 17) (.tmp 18) rfl (Wi.C (Lo.wi s)) (x.C) (is_tq (hi9 hin 12 17) rfl) (is_tq (hi9 hin 13 18) rfl) false ((eqW41 _ _ _).trans (by rw [unhide HC])) (tE rfl)
   | 15,ho,hsk=>
     cases ho
     exact o_pickOr0 (.tmp 13) (.tmp 19) rfl _ (is_tq (hi9 hin 8 13) rfl) (is_tq (hi9 hin 14 19) rfl) (tE rfl)
   | 16,ho,hsk=>
     cases ho
     exact wp_move (.tmp 20) rfl _ (is_tq (hi9 hin 15 20) rfl) (tE rfl)
   | 17,ho,hsk=>
     cases ho
     exact wp_move (.tmp 0) rfl _ ((ho9 hout 0).trans rfl) (tE rfl)
   | 18,ho,hsk=>
     cases ho
     exact o_nil (.tmp 22) rfl _ (is_tq (hi9 hin 17 22) rfl) (tE rfl)
   | 19,ho,hsk=>
     cases ho
     exact o_fld75_6 (.tmp 23) rfl b (0) (27) rfl (is_tq (hi9 hin 18 23) rfl) (tE rfl)
   | 20,ho,hsk=>
     cases ho
     exact o_load38 (.tmp 24) rfl _ _ (is_tq (hi9 hin 19 24) rfl) (fits_cell (((unhide M).step hk2).at 0 _ rfl) 27 _ rfl) (tE rfl)
   | 21,ho,hsk=>
     cases ho
     exact wp_loadA row41 (.tmp 3) rfl b3 (0) ((ho9 hout 3).trans rfl) (x.C) rfl ((((unhide M).step hk2).at 1 _ rfl).range) (tE rfl)
   | 22,ho,hsk=>
     cases ho
     have e0:a'.eval (.tmp 25)=ln:=is_tq (hi9 hin 20 25) rfl
     have e1:a'.eval (.tmp 26)=aggV x.C:=is_tq (hi9 hin 21 26) rfl
     refine wp_callF 92 _ _ rfl #[ln,aggV x.C] (by simp [e0,e1]) (cg66 _ _) ((unhide (P66 _ ((((unhide M).step hk2)).kept))).mono ?_)
     rintro e w3 ⟨rfl,hk3⟩
     exact⟨_,rfl,_,rfl,tq_is _ _ _ _ rfl,hk3,fun _ _ _ _ _=>trivial⟩
   | 23,ho,hsk=>
     cases ho
     exact o_pickOr0 (.tmp 21) (.tmp 27) rfl _ (is_tq (hi9 hin 16 21) rfl) (is_tq (hi9 hin 22 27) rfl) (tE rfl)
 intro w9 hk9
 replace hk9:Kept [] W1 w9:=ud hk9
 simp only [valsQ,List.map_cons,List.map_nil,Option.getD_some,List.take_succ_cons,List.take_zero,putAll,Act.put,List.setIfInBounds_toArray,List.set_cons_succ,List.set_cons_zero]
 refine wpAny_done (by kernel_rfl) ?_ _
 replace M:=hide ((unhide M).step hk9)
 clear hk9
 go_wp2_with fail
 refine wp_region_any mixed (wpAny_gx 11 rfl (by kernel_rfl) [some (P0 b),some (P0 b),some (P0 b),some (.pointer (some ⟨b,27,none⟩)),some (ln),some (aggV x.C),none,none,some (P0 b),some (.pointer (some ⟨b,27,none⟩)),none] rfl (by kernel_rfl) (fun l vs W=>(S3 w b b3 s ln L x) (fun i=>l.getD i false) vs W) (⟨fun _ _=>(unhide M).drew,(fun h=>by cases h),fun h=>by cases h⟩) ?_ ?_)
 · intro ix o' hi ho a' w2 l vs hls hlf hJ hout hin hdep hnot
   match ix,ho with
   | 0,ho=>
     cases ho
     have e0:=ho9 hout 0
     replace e0:a'.eval (.tmp 0)=_:=e0.trans rfl
     exact wp_move (.tmp 0) rfl _ e0 ⟨_,rfl,told_of rfl,keepG [6,7,10] S3.loc (by omega) (by decide) hJ⟩
   | 1,ho=>
     cases ho
     have e0:=ho9 hout 0
     replace e0:a'.eval (.tmp 0)=_:=e0.trans rfl
     exact wp_move (.tmp 0) rfl _ e0 ⟨_,rfl,told_of rfl,keepG [6,7,10] S3.loc (by omega) (by decide) hJ⟩
   | 2,ho=>
     cases ho
     exact o_nil (.tmp 30) rfl _ (hx9 (hi9 hin 1 30) rfl) ⟨_,rfl,told_of rfl,keepG [6,7,10] S3.loc (by omega) (by decide) hJ⟩
   | 3,ho=>
     cases ho
     exact o_fld75_6 (.tmp 31) rfl b (0) (27) rfl (hx9 (hi9 hin 2 31) rfl) ⟨_,rfl,told_of rfl,keepG [6,7,10] S3.loc (by omega) (by decide) hJ⟩
   | 4,ho=>
     cases ho
     exact o_load38 (.tmp 32) rfl _ _ (hx9 (hi9 hin 3 32) rfl) (fits_cell (S3.at hJ (ho9 hnot 7)).1 27 _ rfl) ⟨_,rfl,told_of rfl,keepG [6,7,10] S3.loc (by omega) (by decide) hJ⟩
   | 5,ho=>
     cases ho
     have e0:=ho9 hout 3
     replace e0:a'.eval (.tmp 3)=_:=e0.trans rfl
     exact wp_loadA row41 (.tmp 3) rfl b3 (0) e0 (x.C) rfl ((S3.at hJ (ho9 hnot 7)).2.range) ⟨_,rfl,told_of rfl,keepG [6,7,10] S3.loc (by omega) (by decide) hJ⟩
   | 6,ho=>
     cases ho
     have e0:a'.eval (.tmp 34)=aggV x.C:=hx9 (hi9 hin 5 34) rfl
     refine o_bs38 (.tmp 34) rfl x e0 (fun W g h1 h2 h3=> ?_)
     exact⟨_,rfl,told_no rfl,nextG (by omega) (S3.make hJ hlf (ho9 hnot 7) h1 h2 h3)⟩
   | 7,ho=>
     cases ho
     have e0:a'.eval (.tmp 33)=ln:=hx9 (hi9 hin 4 33) rfl
     have e1:a'.eval (.tmp 35)=vs 6:=(hi9 hin 6 35).1
     obtain⟨g,eg,hM⟩:=hJ.2.1 (ho9 hdep 6) hlf
     refine o_appR el38 (.tmp 33) (.tmp 35) rfl ln _ _ e0 ((unhide HW).kept hM.kept (Rw.ne (unhide HW) (unhide HB0) (by decide))) _ 1 x.C (e1.trans eg) (Rw.made (hM.at 2 _ rfl) rfl (max1000 (by omega))) (Wi.one _) (by omega) (max1000 (by omega)) (fun v9 W9 h1 h2 h3 h4=> ?_)
     exact⟨_,rfl,told_no rfl,nextG (by omega) (S3.app hJ (unhide HB0) (unhide HW) (ho9 hdep 6) hlf (ho9 hnot 10) h1 h2 h3 h4)⟩
   | 8,ho=>
     cases ho
     exact o_nil (.tmp 29) rfl _ (hx9 (hi9 hin 0 29) rfl) ⟨_,rfl,told_of rfl,keepG [6,7,10] S3.loc (by omega) (by decide) hJ⟩
   | 9,ho=>
     cases ho
     exact o_fld75_6 (.tmp 37) rfl b (0) (27) rfl (hx9 (hi9 hin 8 37) rfl) ⟨_,rfl,told_of rfl,keepG [6,7,10] S3.loc (by omega) (by decide) hJ⟩
   | 10,ho=>
     cases ho
     have e0:a'.eval (.tmp 38)= .pointer (some ⟨b,27,none⟩):=hx9 (hi9 hin 9 38) rfl
     have e1:a'.eval (.tmp 36)=vs 7:=(hi9 hin 7 36).1
     have h7:=ho9 hdep 7
     obtain⟨hA,hb,_⟩:=hJ.2.2 h7
     exact o_stB size38 (.tmp 38) (.tmp 36) rfl rfl b 27 (vs 7) hA.row.one e0 e1 (hb hlf) (show 27+1≤_ from Nat.le_of_ble_eq_true rfl) rfl (fun W h1 h2=>⟨undef,rfl,told_no rfl,nextG (by omega) (S3.store hJ h7 hlf h1 h2)⟩)
 intro l_ vs4 V4 hl hJ htold
 have t0:vs4 0=P0 b:=told_is _ (htold 0 (by decide)) rfl
 have t1:vs4 1=P0 b:=told_is _ (htold 1 (by decide)) rfl
 have t2:vs4 2=P0 b:=told_is _ (htold 2 (by decide)) rfl
 have t3:vs4 3= .pointer (some ⟨b,27,none⟩):=told_is _ (htold 3 (by decide)) rfl
 have t4:vs4 4=ln:=told_is _ (htold 4 (by decide)) rfl
 have t5:vs4 5=aggV x.C:=told_is _ (htold 5 (by decide)) rfl
 have t8:vs4 8=P0 b:=told_is _ (htold 8 (by decide)) rfl
 have t9:vs4 9= .pointer (some ⟨b,27,none⟩):=told_is _ (htold 9 (by decide)) rfl
 rw [show (List.range 11).map vs4= [vs4 0,vs4 1,vs4 2,vs4 3,vs4 4,vs4 5,vs4 6,vs4 7,vs4 8,vs4 9,vs4 10] from rfl]
 simp only [t0,t1,t2,t3,t4,t5,t8,t9,putAll,Act.put,List.setIfInBounds_toArray,List.set_cons_succ,List.set_cons_zero]
 clear t0 t1 t2 t3 t4 t5 t8 t9 htold
 obtain⟨hA,_,hb⟩:=hJ.2.2 (hl 7 (by decide))
 replace hb:=hb (hl 10 (by decide))
 generalize vs4 7=v7 at hA hb⊢
 have HA:=hide hA
 have HB:=hide hb
 clear hA hb hJ hl M
 go_wp2_with (first |(go_at_call 72;refine(busy44 s v7 b _ (unhide HB)).mono ?_;rintro e W11 ⟨rfl,q11⟩;replace q11:=q11.symm;subst q11;rw [unhide HBz];refine Stp.go ?_))
 constructor
 go_wp2_with (first |(go_at_call 86;refine(next55 s v7 b (L++ [x]) _ (unhide HB) (unhide HS) (unhide HA).row (unhide HAl) (unhide HOp) (by rw [List.length_append];simp;omega)).mono ?_;rintro e W9 ⟨v,ln2,rfl,N9,B9,R9,K9,S9⟩;have HN:=hide N9;have HB9:=hide B9;have HR:=hide R9;have HK9:=hide K9;have HS9:=hide S9;clear N9 B9 R9 K9 S9;refine Stp.go ?_))
 constructor
 go_wp2_with fail
 go_ret
 exact⟨v,ln2,rfl,(unhide HN).elder (unhide HA).kept.size,unhide HB9,unhide HR,(unhide HA).kept.trans ((unhide HK9).mono (by simp)),(unhide HA).grw.sub (unhide HS9)⟩
theorem ask48 (s:Lo) (ln:Value) (b:Nat) (L:List Wi) (x:Wi) (w:World) (h:Blk w b 108 (s.C ln)) (hW:Ws w ln L) (hL:L.length≤900) (hx:x.Ok) (hs:s.Ok) (hall:∀x∈L,x.Ok) (hop:0≤s.op∧s.op+L.length≤900000):Calls Try.prog 75 #[P0 b,aggV x.C] w (LC b ln w (askP s L x)):=by
 unfold askP
 by_cases hc:s.wi=x
 · rw [if_pos (.inl hc)];exact ask_c s ln b L x w h hW hL hx hc
 · by_cases hd:x∈L
   · rw [if_pos (.inr hd)];exact ask_d s ln b L x w h hW hL hx hc hd
   · rw [if_neg (by simp [hc,hd])]
     cases hb:s.busy with
     | true=>simpa using ask_e s ln b L x w h hW hL hx hc hd hb
     | false=>simpa using ask_f s ln b L x w h hW hL hx hc hd hb hs hall hop
end Go.Proofs.Ytbigongmlpoahaa
