import Derived.Test.YtbigongmlpoahaaUFg
namespace Go.Proofs.Ytbigongmlpoahaa
set_option maxHeartbeats 2000000
set_option maxRecDepth 100000
set_option linter.unusedSimpArgs false
open Go.RowKit
@[reducible] def LV (b:Nat) (ln:Value) (w:World) (s:Lo) (e:Ending) (w':World):Prop:=e= .returned (.tuple #[])∧Blk w' b 108 (s.C ln)∧Kept [b] w w'
def Lo.give1 (s:Lo) (n:Nat):Lo:= { s with ho:=upd s.ho n false,ops:=upd s.ops n 0 }
def Lo.noEx (s:Lo):Lo:= { s with ex:= -1 }
def Lo.noOw (s:Lo):Lo:= { s with ow:= -1 }
def Lo.give (s:Lo) (n:Nat):Lo:= { s with ho:=upd s.ho n false,ops:=upd s.ops n 0,ex:=if s.ex=(n:Int) then -1 else s.ex,ow:=if s.ow=(n:Int) then -1 else s.ow }
def Lo.setWa (s:Lo) (n:Nat) (v:Bool):Lo:= { s with wa:=upd s.wa n v }
def Lo.isGone (s:Lo) (n:Nat):Lo×List Od:=if emp (s.setWa n false).wa then (s.setWa n false).handOver else (s.setWa n false,[])
def Lo.put (s:Lo) (n:Nat):Lo:= { s with ho:=upd s.ho n true,ops:=upd s.ops n s.op }
def Lo.setOp (s:Lo) (n:Nat):Lo:= { s with ops:=upd s.ops n s.op }
def Lo.nowSh (s:Lo) (n:Nat):Lo:=if s.su≠ -1∧s.ho s.su.toNat=true then (s.noEx.setOp s.su.toNat).put n else s.noEx.put n
def Lo.none (s:Lo):Lo:= { s with ho:=no8,ops:=ze8 }
def Lo.own (s:Lo) (n:Nat):Lo:= { s with ex:=n,ow:=n }
def Lo.nowEx (s:Lo) (n:Nat):Lo:=if s.su≠ -1∧s.su=s.ow then ((s.setPa s.su.toNat true).none.put n).own n else (s.none.put n).own n
theorem give_ok {s:Lo} (h:s.Ok) (n:Nat):(s.give n).Ok:=by
 have h1:=h.ex
 have h2:=h.ow
 refine⟨?_,?_,h.su,h.hn⟩
 · simp only [Lo.give];split <;> omega
 · simp only [Lo.give];split <;> omega
theorem setWa_ok {s:Lo} (h:s.Ok) (n:Nat) (v:Bool):(s.setWa n v).Ok:=⟨h.ex,h.ow,h.su,h.hn⟩
theorem nowSh_ok {s:Lo} (h:s.Ok) (n:Nat):(s.nowSh n).Ok:=by
 unfold Lo.nowSh
 split <;> exact⟨by simp [Lo.put,Lo.noEx,Lo.setOp],h.ow,h.su,h.hn⟩
theorem nowEx_ok {s:Lo} (h:s.Ok) {n:Nat} (hn:n<8):(s.nowEx n).Ok:=by
 unfold Lo.nowEx
 split <;> exact⟨by simp [Lo.own];omega,by simp [Lo.own];omega,h.su,h.hn⟩
theorem give_bb (s:Lo) (ln:Value) (b n:Nat) (w:World) (h:Blk w b 108 (s.C ln)) (hn:n<8) (h1:  s.ex=(n:Int)) (h2:  s.ow=(n:Int)):Calls Try.prog 77 #[P0 b,.int .i64 n] w (LV b ln w (((s.give1 n).noEx).noOw)):=by
 have M:=hide (Mm.one h)
 have hnI:(n:Int)<8:=by omega
 clear h
 have H1:=hide h1
 clear h1
 have H2:=hide h2
 clear h2
 go_enter Try.func77,Try.ntmps77
 go_wp2_with fail
 refine wp_region_any mixed (wpAny_gx 12 rfl (by kernel_rfl) [some (P0 b),some (.int .i64 n),some (P0 b),some (.int .i64 n),some (P0 b),some (.pointer (some ⟨b,3,none⟩)),some (.pointer (some ⟨b,3+n,none⟩)),none,some (P0 b),some (.pointer (some ⟨b,11,none⟩)),some (.pointer (some ⟨b,11+n,none⟩)),none] rfl (by kernel_rfl) (fun l vs W=>(SD2 [b] w (fun d1 d2=> [(b,108,Lo.C { s with ho:=cond d1 (upd s.ho n false) s.ho,ops:=cond d2 (upd s.ops n (0)) s.ops } ln)]) 7 11) (fun i=>l.getD i false) vs W) ((unhide M).drew) ?_ ?_)
 · intro ix o' hi ho a' w2 l vs hls hlf hJ hout hin hdep hnot
   match ix,ho with
   | 0,ho=>
     cases ho
     have e0:=ho9 hout 0
     replace e0:a'.eval (.tmp 0)=_:=e0.trans rfl
     exact wp_move (.tmp 0) rfl _ e0 ⟨_,rfl,told_of rfl,keepG [7,11] SD2.loc (by omega) (by decide) hJ⟩
   | 1,ho=>
     cases ho
     have e0:=ho9 hout 1
     replace e0:a'.eval (.tmp 1)=_:=e0.trans rfl
     exact wp_move (.tmp 1) rfl _ e0 ⟨_,rfl,told_of rfl,keepG [7,11] SD2.loc (by omega) (by decide) hJ⟩
   | 2,ho=>
     cases ho
     have e0:=ho9 hout 0
     replace e0:a'.eval (.tmp 0)=_:=e0.trans rfl
     exact wp_move (.tmp 0) rfl _ e0 ⟨_,rfl,told_of rfl,keepG [7,11] SD2.loc (by omega) (by decide) hJ⟩
   | 3,ho=>
     cases ho
     have e0:=ho9 hout 1
     replace e0:a'.eval (.tmp 1)=_:=e0.trans rfl
     exact wp_move (.tmp 1) rfl _ e0 ⟨_,rfl,told_of rfl,keepG [7,11] SD2.loc (by omega) (by decide) hJ⟩
   | 4,ho=>
     cases ho
     exact o_nil (.tmp 4) rfl _ (hx9 (hi9 hin 0 4) rfl) ⟨_,rfl,told_of rfl,keepG [7,11] SD2.loc (by omega) (by decide) hJ⟩
   | 5,ho=>
     cases ho
     exact o_fld75_3 (.tmp 8) rfl b (0) (3) rfl (hx9 (hi9 hin 4 8) rfl) ⟨_,rfl,told_of rfl,keepG [7,11] SD2.loc (by omega) (by decide) hJ⟩
   | 6,ho=>
     cases ho
     exact o_idx73 (.tmp 9) (.tmp 5) rfl b (3) n (3+n) (hn) rfl (hx9 (hi9 hin 5 9) rfl) (hx9 (hi9 hin 1 5) rfl) ⟨_,rfl,told_of rfl,keepG [7,11] SD2.loc (by omega) (by decide) hJ⟩
   | 7,ho=>
     cases ho
     exact o_st1 size4 (.tmp 10) _ rfl rfl b (3+n) 0 (.bool false) ⟨rfl,rfl⟩ (hx9 (hi9 hin 6 10) rfl) rfl (SD2.no hJ hlf) rfl (by show 3+n<40;omega) (Lo.ho_set _ ln n hn false) (fun W hM=>⟨undef,rfl,told_no rfl,nextG (by omega) hM⟩)
   | 8,ho=>
     cases ho
     exact o_nil (.tmp 6) rfl _ (hx9 (hi9 hin 2 6) rfl) ⟨_,rfl,told_of rfl,keepG [7,11] SD2.loc (by omega) (by decide) hJ⟩
   | 9,ho=>
     cases ho
     exact o_fld75_4 (.tmp 11) rfl b (0) (11) rfl (hx9 (hi9 hin 8 11) rfl) ⟨_,rfl,told_of rfl,keepG [7,11] SD2.loc (by omega) (by decide) hJ⟩
   | 10,ho=>
     cases ho
     exact o_idx37 (.tmp 12) (.tmp 7) rfl b (11) n (11+n) (hn) rfl (hx9 (hi9 hin 9 12) rfl) (hx9 (hi9 hin 3 7) rfl) ⟨_,rfl,told_of rfl,keepG [7,11] SD2.loc (by omega) (by decide) hJ⟩
   | 11,ho=>
     cases ho
     exact o_st1 size2 (.tmp 13) _ rfl rfl b (11+n) 0 (.int .i64 (0)) ⟨rfl,rfl⟩ (hx9 (hi9 hin 10 13) rfl) rfl (SD2.no2 hJ hlf) rfl (by show 11+n<40;omega) (Lo.ops_set _ ln n hn (0)) (fun W hM=>⟨undef,rfl,told_no rfl,nextG (by omega) hM⟩)
 intro l_ vs4 V4 hl hJ htold
 have t0:vs4 0=P0 b:=told_is _ (htold 0 (by decide)) rfl
 have t1:vs4 1= .int .i64 n:=told_is _ (htold 1 (by decide)) rfl
 have t2:vs4 2=P0 b:=told_is _ (htold 2 (by decide)) rfl
 have t3:vs4 3= .int .i64 n:=told_is _ (htold 3 (by decide)) rfl
 have t4:vs4 4=P0 b:=told_is _ (htold 4 (by decide)) rfl
 have t5:vs4 5= .pointer (some ⟨b,3,none⟩):=told_is _ (htold 5 (by decide)) rfl
 have t6:vs4 6= .pointer (some ⟨b,3+n,none⟩):=told_is _ (htold 6 (by decide)) rfl
 have t8:vs4 8=P0 b:=told_is _ (htold 8 (by decide)) rfl
 have t9:vs4 9= .pointer (some ⟨b,11,none⟩):=told_is _ (htold 9 (by decide)) rfl
 have t10:vs4 10= .pointer (some ⟨b,11+n,none⟩):=told_is _ (htold 10 (by decide)) rfl
 rw [show (List.range 12).map vs4= [vs4 0,vs4 1,vs4 2,vs4 3,vs4 4,vs4 5,vs4 6,vs4 7,vs4 8,vs4 9,vs4 10,vs4 11] from rfl]
 simp only [t0,t1,t2,t3,t4,t5,t6,t8,t9,t10,putAll,Act.put,List.setIfInBounds_toArray,List.set_cons_succ,List.set_cons_zero]
 clear t0 t1 t2 t3 t4 t5 t6 t8 t9 t10 htold
 have hM4:Mm [b] w V4 ([(b,108,(s.give1 n).C ln)]):=SD2.yes hJ (hl 7 (by decide)) (hl 11 (by decide))
 replace M:Hid (Mm [b] w V4 [(b,108,(s.give1 n).C ln)]):=hide hM4
 clear hM4 hJ hl
 have c1:V4.cell? ⟨b,1,none⟩=some (.int .i64 (n:Int)):=by rw [← unhide H1];exact fits_cell ((unhide M).at 0 _ rfl) 1 _ rfl
 have c2:V4.cell? ⟨b,2,none⟩=some (.int .i64 (n:Int)):=by rw [← unhide H2];exact fits_cell ((unhide M).at 0 _ rfl) 2 _ rfl
 go_wp2_with (first |(refine wpSt1 size3 rfl (.tmp 22) (.const (.int .i64 (-1))) rfl rfl b (1) 0 (.int .i64 (-1)) (⟨rfl,rfl⟩) rfl rfl (unhide M) rfl (show 1+1≤_ from Nat.le_of_ble_eq_true rfl) (rfl) ?_;intro W11 N11;replace M:Hid (Mm [b] w W11 [(b,108,(s.give1 n).noEx.C ln)]):=hide N11;clear N11;clear c1 c2;have c2:W11.cell? ⟨b,2,none⟩=some (.int .i64 (n:Int)):=(by rw [← unhide H2];exact fits_cell ((unhide M).at 0 _ rfl) 2 _ rfl);refine Stp.go ?_))
 constructor
 go_wp2_with (first |(refine wpSt1 size3 rfl (.tmp 31) (.const (.int .i64 (-1))) rfl rfl b (2) 0 (.int .i64 (-1)) (⟨rfl,rfl⟩) rfl rfl (unhide M) rfl (show 2+1≤_ from Nat.le_of_ble_eq_true rfl) (rfl) ?_;intro W12 N12;replace M:Hid (Mm [b] w W12 [(b,108,(s.give1 n).noEx.noOw.C ln)]):=hide N12;clear N12;clear c2;refine Stp.go ?_))
 constructor
 go_wp2_with fail
 go_end0
 exact⟨rfl,(unhide M).at 0 _ rfl,(unhide M).kept⟩
theorem give_ba (s:Lo) (ln:Value) (b n:Nat) (w:World) (h:Blk w b 108 (s.C ln)) (hn:n<8) (h1:  s.ex=(n:Int)) (h2:¬s.ow=(n:Int)):Calls Try.prog 77 #[P0 b,.int .i64 n] w (LV b ln w ((s.give1 n).noEx)):=by
 have M:=hide (Mm.one h)
 have hnI:(n:Int)<8:=by omega
 clear h
 have H1:=hide h1
 clear h1
 have h2a:decide (s.ow=(n:Int))=false:=nef_a h2
 have h2b:(s.ow == (n:Int))=false:=nef_b h2
 have h2c:(s.ow !=(n:Int))=true:=nef_c h2
 go_enter Try.func77,Try.ntmps77
 go_wp2_with fail
 refine wp_region_any mixed (wpAny_gx 12 rfl (by kernel_rfl) [some (P0 b),some (.int .i64 n),some (P0 b),some (.int .i64 n),some (P0 b),some (.pointer (some ⟨b,3,none⟩)),some (.pointer (some ⟨b,3+n,none⟩)),none,some (P0 b),some (.pointer (some ⟨b,11,none⟩)),some (.pointer (some ⟨b,11+n,none⟩)),none] rfl (by kernel_rfl) (fun l vs W=>(SD2 [b] w (fun d1 d2=> [(b,108,Lo.C { s with ho:=cond d1 (upd s.ho n false) s.ho,ops:=cond d2 (upd s.ops n (0)) s.ops } ln)]) 7 11) (fun i=>l.getD i false) vs W) ((unhide M).drew) ?_ ?_)
 · intro ix o' hi ho a' w2 l vs hls hlf hJ hout hin hdep hnot
   match ix,ho with
   | 0,ho=>
     cases ho
     have e0:=ho9 hout 0
     replace e0:a'.eval (.tmp 0)=_:=e0.trans rfl
     exact wp_move (.tmp 0) rfl _ e0 ⟨_,rfl,told_of rfl,keepG [7,11] SD2.loc (by omega) (by decide) hJ⟩
   | 1,ho=>
     cases ho
     have e0:=ho9 hout 1
     replace e0:a'.eval (.tmp 1)=_:=e0.trans rfl
     exact wp_move (.tmp 1) rfl _ e0 ⟨_,rfl,told_of rfl,keepG [7,11] SD2.loc (by omega) (by decide) hJ⟩
   | 2,ho=>
     cases ho
     have e0:=ho9 hout 0
     replace e0:a'.eval (.tmp 0)=_:=e0.trans rfl
     exact wp_move (.tmp 0) rfl _ e0 ⟨_,rfl,told_of rfl,keepG [7,11] SD2.loc (by omega) (by decide) hJ⟩
   | 3,ho=>
     cases ho
     have e0:=ho9 hout 1
     replace e0:a'.eval (.tmp 1)=_:=e0.trans rfl
     exact wp_move (.tmp 1) rfl _ e0 ⟨_,rfl,told_of rfl,keepG [7,11] SD2.loc (by omega) (by decide) hJ⟩
   | 4,ho=>
     cases ho
     exact o_nil (.tmp 4) rfl _ (hx9 (hi9 hin 0 4) rfl) ⟨_,rfl,told_of rfl,keepG [7,11] SD2.loc (by omega) (by decide) hJ⟩
   | 5,ho=>
     cases ho
     exact o_fld75_3 (.tmp 8) rfl b (0) (3) rfl (hx9 (hi9 hin 4 8) rfl) ⟨_,rfl,told_of rfl,keepG [7,11] SD2.loc (by omega) (by decide) hJ⟩
   | 6,ho=>
     cases ho
     exact o_idx73 (.tmp 9) (.tmp 5) rfl b (3) n (3+n) (hn) rfl (hx9 (hi9 hin 5 9) rfl) (hx9 (hi9 hin 1 5) rfl) ⟨_,rfl,told_of rfl,keepG [7,11] SD2.loc (by omega) (by decide) hJ⟩
   | 7,ho=>
     cases ho
     exact o_st1 size4 (.tmp 10) _ rfl rfl b (3+n) 0 (.bool false) ⟨rfl,rfl⟩ (hx9 (hi9 hin 6 10) rfl) rfl (SD2.no hJ hlf) rfl (by show 3+n<40;omega) (Lo.ho_set _ ln n hn false) (fun W hM=>⟨undef,rfl,told_no rfl,nextG (by omega) hM⟩)
   | 8,ho=>
     cases ho
     exact o_nil (.tmp 6) rfl _ (hx9 (hi9 hin 2 6) rfl) ⟨_,rfl,told_of rfl,keepG [7,11] SD2.loc (by omega) (by decide) hJ⟩
   | 9,ho=>
     cases ho
     exact o_fld75_4 (.tmp 11) rfl b (0) (11) rfl (hx9 (hi9 hin 8 11) rfl) ⟨_,rfl,told_of rfl,keepG [7,11] SD2.loc (by omega) (by decide) hJ⟩
   | 10,ho=>
     cases ho
     exact o_idx37 (.tmp 12) (.tmp 7) rfl b (11) n (11+n) (hn) rfl (hx9 (hi9 hin 9 12) rfl) (hx9 (hi9 hin 3 7) rfl) ⟨_,rfl,told_of rfl,keepG [7,11] SD2.loc (by omega) (by decide) hJ⟩
   | 11,ho=>
     cases ho
     exact o_st1 size2 (.tmp 13) _ rfl rfl b (11+n) 0 (.int .i64 (0)) ⟨rfl,rfl⟩ (hx9 (hi9 hin 10 13) rfl) rfl (SD2.no2 hJ hlf) rfl (by show 11+n<40;omega) (Lo.ops_set _ ln n hn (0)) (fun W hM=>⟨undef,rfl,told_no rfl,nextG (by omega) hM⟩)
 intro l_ vs4 V4 hl hJ htold
 have t0:vs4 0=P0 b:=told_is _ (htold 0 (by decide)) rfl
 have t1:vs4 1= .int .i64 n:=told_is _ (htold 1 (by decide)) rfl
 have t2:vs4 2=P0 b:=told_is _ (htold 2 (by decide)) rfl
 have t3:vs4 3= .int .i64 n:=told_is _ (htold 3 (by decide)) rfl
 have t4:vs4 4=P0 b:=told_is _ (htold 4 (by decide)) rfl
 have t5:vs4 5= .pointer (some ⟨b,3,none⟩):=told_is _ (htold 5 (by decide)) rfl
 have t6:vs4 6= .pointer (some ⟨b,3+n,none⟩):=told_is _ (htold 6 (by decide)) rfl
 have t8:vs4 8=P0 b:=told_is _ (htold 8 (by decide)) rfl
 have t9:vs4 9= .pointer (some ⟨b,11,none⟩):=told_is _ (htold 9 (by decide)) rfl
 have t10:vs4 10= .pointer (some ⟨b,11+n,none⟩):=told_is _ (htold 10 (by decide)) rfl
 rw [show (List.range 12).map vs4= [vs4 0,vs4 1,vs4 2,vs4 3,vs4 4,vs4 5,vs4 6,vs4 7,vs4 8,vs4 9,vs4 10,vs4 11] from rfl]
 simp only [t0,t1,t2,t3,t4,t5,t6,t8,t9,t10,putAll,Act.put,List.setIfInBounds_toArray,List.set_cons_succ,List.set_cons_zero]
 clear t0 t1 t2 t3 t4 t5 t6 t8 t9 t10 htold
 have hM4:Mm [b] w V4 ([(b,108,(s.give1 n).C ln)]):=SD2.yes hJ (hl 7 (by decide)) (hl 11 (by decide))
 replace M:Hid (Mm [b] w V4 [(b,108,(s.give1 n).C ln)]):=hide hM4
 clear hM4 hJ hl
 have c1:V4.cell? ⟨b,1,none⟩=some (.int .i64 (n:Int)):=by rw [← unhide H1];exact fits_cell ((unhide M).at 0 _ rfl) 1 _ rfl
 have c2:V4.cell? ⟨b,2,none⟩=some (.int .i64 s.ow):=by exact fits_cell ((unhide M).at 0 _ rfl) 2 _ rfl
 go_wp2_with (first |(refine wpSt1 size3 rfl (.tmp 22) (.const (.int .i64 (-1))) rfl rfl b (1) 0 (.int .i64 (-1)) (⟨rfl,rfl⟩) rfl rfl (unhide M) rfl (show 1+1≤_ from Nat.le_of_ble_eq_true rfl) (rfl) ?_;intro W11 N11;replace M:Hid (Mm [b] w W11 [(b,108,(s.give1 n).noEx.C ln)]):=hide N11;clear N11;clear c1 c2;have c2:W11.cell? ⟨b,2,none⟩=some (.int .i64 s.ow):=(by exact fits_cell ((unhide M).at 0 _ rfl) 2 _ rfl);refine Stp.go ?_))
 constructor
 go_wp2_with fail
 go_end0
 exact⟨rfl,(unhide M).at 0 _ rfl,(unhide M).kept⟩
theorem give_ab (s:Lo) (ln:Value) (b n:Nat) (w:World) (h:Blk w b 108 (s.C ln)) (hn:n<8) (h1:¬s.ex=(n:Int)) (h2:  s.ow=(n:Int)):Calls Try.prog 77 #[P0 b,.int .i64 n] w (LV b ln w ((s.give1 n).noOw)):=by
 have M:=hide (Mm.one h)
 have hnI:(n:Int)<8:=by omega
 clear h
 have h1a:decide (s.ex=(n:Int))=false:=nef_a h1
 have h1b:(s.ex == (n:Int))=false:=nef_b h1
 have h1c:(s.ex !=(n:Int))=true:=nef_c h1
 have H2:=hide h2
 clear h2
 go_enter Try.func77,Try.ntmps77
 go_wp2_with fail
 refine wp_region_any mixed (wpAny_gx 12 rfl (by kernel_rfl) [some (P0 b),some (.int .i64 n),some (P0 b),some (.int .i64 n),some (P0 b),some (.pointer (some ⟨b,3,none⟩)),some (.pointer (some ⟨b,3+n,none⟩)),none,some (P0 b),some (.pointer (some ⟨b,11,none⟩)),some (.pointer (some ⟨b,11+n,none⟩)),none] rfl (by kernel_rfl) (fun l vs W=>(SD2 [b] w (fun d1 d2=> [(b,108,Lo.C { s with ho:=cond d1 (upd s.ho n false) s.ho,ops:=cond d2 (upd s.ops n (0)) s.ops } ln)]) 7 11) (fun i=>l.getD i false) vs W) ((unhide M).drew) ?_ ?_)
 · intro ix o' hi ho a' w2 l vs hls hlf hJ hout hin hdep hnot
   match ix,ho with
   | 0,ho=>
     cases ho
     have e0:=ho9 hout 0
     replace e0:a'.eval (.tmp 0)=_:=e0.trans rfl
     exact wp_move (.tmp 0) rfl _ e0 ⟨_,rfl,told_of rfl,keepG [7,11] SD2.loc (by omega) (by decide) hJ⟩
   | 1,ho=>
     cases ho
     have e0:=ho9 hout 1
     replace e0:a'.eval (.tmp 1)=_:=e0.trans rfl
     exact wp_move (.tmp 1) rfl _ e0 ⟨_,rfl,told_of rfl,keepG [7,11] SD2.loc (by omega) (by decide) hJ⟩
   | 2,ho=>
     cases ho
     have e0:=ho9 hout 0
     replace e0:a'.eval (.tmp 0)=_:=e0.trans rfl
     exact wp_move (.tmp 0) rfl _ e0 ⟨_,rfl,told_of rfl,keepG [7,11] SD2.loc (by omega) (by decide) hJ⟩
   | 3,ho=>
     cases ho
     have e0:=ho9 hout 1
     replace e0:a'.eval (.tmp 1)=_:=e0.trans rfl
     exact wp_move (.tmp 1) rfl _ e0 ⟨_,rfl,told_of rfl,keepG [7,11] SD2.loc (by omega) (by decide) hJ⟩
   | 4,ho=>
     cases ho
     exact o_nil (.tmp 4) rfl _ (hx9 (hi9 hin 0 4) rfl) ⟨_,rfl,told_of rfl,keepG [7,11] SD2.loc (by omega) (by decide) hJ⟩
   | 5,ho=>
     cases ho
     exact o_fld75_3 (.tmp 8) rfl b (0) (3) rfl (hx9 (hi9 hin 4 8) rfl) ⟨_,rfl,told_of rfl,keepG [7,11] SD2.loc (by omega) (by decide) hJ⟩
   | 6,ho=>
     cases ho
     exact o_idx73 (.tmp 9) (.tmp 5) rfl b (3) n (3+n) (hn) rfl (hx9 (hi9 hin 5 9) rfl) (hx9 (hi9 hin 1 5) rfl) ⟨_,rfl,told_of rfl,keepG [7,11] SD2.loc (by omega) (by decide) hJ⟩
   | 7,ho=>
     cases ho
     exact o_st1 size4 (.tmp 10) _ rfl rfl b (3+n) 0 (.bool false) ⟨rfl,rfl⟩ (hx9 (hi9 hin 6 10) rfl) rfl (SD2.no hJ hlf) rfl (by show 3+n<40;omega) (Lo.ho_set _ ln n hn false) (fun W hM=>⟨undef,rfl,told_no rfl,nextG (by omega) hM⟩)
   | 8,ho=>
     cases ho
     exact o_nil (.tmp 6) rfl _ (hx9 (hi9 hin 2 6) rfl) ⟨_,rfl,told_of rfl,keepG [7,11] SD2.loc (by omega) (by decide) hJ⟩
   | 9,ho=>
     cases ho
     exact o_fld75_4 (.tmp 11) rfl b (0) (11) rfl (hx9 (hi9 hin 8 11) rfl) ⟨_,rfl,told_of rfl,keepG [7,11] SD2.loc (by omega) (by decide) hJ⟩
   | 10,ho=>
     cases ho
     exact o_idx37 (.tmp 12) (.tmp 7) rfl b (11) n (11+n) (hn) rfl (hx9 (hi9 hin 9 12) rfl) (hx9 (hi9 hin 3 7) rfl) ⟨_,rfl,told_of rfl,keepG [7,11] SD2.loc (by omega) (by decide) hJ⟩
   | 11,ho=>
     cases ho
     exact o_st1 size2 (.tmp 13) _ rfl rfl b (11+n) 0 (.int .i64 (0)) ⟨rfl,rfl⟩ (hx9 (hi9 hin 10 13) rfl) rfl (SD2.no2 hJ hlf) rfl (by show 11+n<40;omega) (Lo.ops_set _ ln n hn (0)) (fun W hM=>⟨undef,rfl,told_no rfl,nextG (by omega) hM⟩)
 intro l_ vs4 V4 hl hJ htold
 have t0:vs4 0=P0 b:=told_is _ (htold 0 (by decide)) rfl
 have t1:vs4 1= .int .i64 n:=told_is _ (htold 1 (by decide)) rfl
 have t2:vs4 2=P0 b:=told_is _ (htold 2 (by decide)) rfl
 have t3:vs4 3= .int .i64 n:=told_is _ (htold 3 (by decide)) rfl
 have t4:vs4 4=P0 b:=told_is _ (htold 4 (by decide)) rfl
 have t5:vs4 5= .pointer (some ⟨b,3,none⟩):=told_is _ (htold 5 (by decide)) rfl
 have t6:vs4 6= .pointer (some ⟨b,3+n,none⟩):=told_is _ (htold 6 (by decide)) rfl
 have t8:vs4 8=P0 b:=told_is _ (htold 8 (by decide)) rfl
 have t9:vs4 9= .pointer (some ⟨b,11,none⟩):=told_is _ (htold 9 (by decide)) rfl
 have t10:vs4 10= .pointer (some ⟨b,11+n,none⟩):=told_is _ (htold 10 (by decide)) rfl
 rw [show (List.range 12).map vs4= [vs4 0,vs4 1,vs4 2,vs4 3,vs4 4,vs4 5,vs4 6,vs4 7,vs4 8,vs4 9,vs4 10,vs4 11] from rfl]
 simp only [t0,t1,t2,t3,t4,t5,t6,t8,t9,t10,putAll,Act.put,List.setIfInBounds_toArray,List.set_cons_succ,List.set_cons_zero]
 clear t0 t1 t2 t3 t4 t5 t6 t8 t9 t10 htold
 have hM4:Mm [b] w V4 ([(b,108,(s.give1 n).C ln)]):=SD2.yes hJ (hl 7 (by decide)) (hl 11 (by decide))
 replace M:Hid (Mm [b] w V4 [(b,108,(s.give1 n).C ln)]):=hide hM4
 clear hM4 hJ hl
 have c1:V4.cell? ⟨b,1,none⟩=some (.int .i64 s.ex):=by exact fits_cell ((unhide M).at 0 _ rfl) 1 _ rfl
 have c2:V4.cell? ⟨b,2,none⟩=some (.int .i64 (n:Int)):=by rw [← unhide H2];exact fits_cell ((unhide M).at 0 _ rfl) 2 _ rfl
 go_wp2_with (first |(refine wpSt1 size3 rfl (.tmp 31) (.const (.int .i64 (-1))) rfl rfl b (2) 0 (.int .i64 (-1)) (⟨rfl,rfl⟩) rfl rfl (unhide M) rfl (show 2+1≤_ from Nat.le_of_ble_eq_true rfl) (rfl) ?_;intro W11 N11;replace M:Hid (Mm [b] w W11 [(b,108,(s.give1 n).noOw.C ln)]):=hide N11;clear N11;clear c2;refine Stp.go ?_))
 constructor
 go_wp2_with fail
 go_end0
 exact⟨rfl,(unhide M).at 0 _ rfl,(unhide M).kept⟩
theorem give_aa (s:Lo) (ln:Value) (b n:Nat) (w:World) (h:Blk w b 108 (s.C ln)) (hn:n<8) (h1:¬s.ex=(n:Int)) (h2:¬s.ow=(n:Int)):Calls Try.prog 77 #[P0 b,.int .i64 n] w (LV b ln w (s.give1 n)):=by
 have M:=hide (Mm.one h)
 have hnI:(n:Int)<8:=by omega
 clear h
 have h1a:decide (s.ex=(n:Int))=false:=nef_a h1
 have h1b:(s.ex == (n:Int))=false:=nef_b h1
 have h1c:(s.ex !=(n:Int))=true:=nef_c h1
 have h2a:decide (s.ow=(n:Int))=false:=nef_a h2
 have h2b:(s.ow == (n:Int))=false:=nef_b h2
 have h2c:(s.ow !=(n:Int))=true:=nef_c h2
 go_enter Try.func77,Try.ntmps77
 go_wp2_with fail
 refine wp_region_any mixed (wpAny_gx 12 rfl (by kernel_rfl) [some (P0 b),some (.int .i64 n),some (P0 b),some (.int .i64 n),some (P0 b),some (.pointer (some ⟨b,3,none⟩)),some (.pointer (some ⟨b,3+n,none⟩)),none,some (P0 b),some (.pointer (some ⟨b,11,none⟩)),some (.pointer (some ⟨b,11+n,none⟩)),none] rfl (by kernel_rfl) (fun l vs W=>(SD2 [b] w (fun d1 d2=> [(b,108,Lo.C { s with ho:=cond d1 (upd s.ho n false) s.ho,ops:=cond d2 (upd s.ops n (0)) s.ops } ln)]) 7 11) (fun i=>l.getD i false) vs W) ((unhide M).drew) ?_ ?_)
 · intro ix o' hi ho a' w2 l vs hls hlf hJ hout hin hdep hnot
   match ix,ho with
   | 0,ho=>
     cases ho
     have e0:=ho9 hout 0
     replace e0:a'.eval (.tmp 0)=_:=e0.trans rfl
     exact wp_move (.tmp 0) rfl _ e0 ⟨_,rfl,told_of rfl,keepG [7,11] SD2.loc (by omega) (by decide) hJ⟩
   | 1,ho=>
     cases ho
     have e0:=ho9 hout 1
     replace e0:a'.eval (.tmp 1)=_:=e0.trans rfl
     exact wp_move (.tmp 1) rfl _ e0 ⟨_,rfl,told_of rfl,keepG [7,11] SD2.loc (by omega) (by decide) hJ⟩
   | 2,ho=>
     cases ho
     have e0:=ho9 hout 0
     replace e0:a'.eval (.tmp 0)=_:=e0.trans rfl
     exact wp_move (.tmp 0) rfl _ e0 ⟨_,rfl,told_of rfl,keepG [7,11] SD2.loc (by omega) (by decide) hJ⟩
   | 3,ho=>
     cases ho
     have e0:=ho9 hout 1
     replace e0:a'.eval (.tmp 1)=_:=e0.trans rfl
     exact wp_move (.tmp 1) rfl _ e0 ⟨_,rfl,told_of rfl,keepG [7,11] SD2.loc (by omega) (by decide) hJ⟩
   | 4,ho=>
     cases ho
     exact o_nil (.tmp 4) rfl _ (hx9 (hi9 hin 0 4) rfl) ⟨_,rfl,told_of rfl,keepG [7,11] SD2.loc (by omega) (by decide) hJ⟩
   | 5,ho=>
     cases ho
     exact o_fld75_3 (.tmp 8) rfl b (0) (3) rfl (hx9 (hi9 hin 4 8) rfl) ⟨_,rfl,told_of rfl,keepG [7,11] SD2.loc (by omega) (by decide) hJ⟩
   | 6,ho=>
     cases ho
     exact o_idx73 (.tmp 9) (.tmp 5) rfl b (3) n (3+n) (hn) rfl (hx9 (hi9 hin 5 9) rfl) (hx9 (hi9 hin 1 5) rfl) ⟨_,rfl,told_of rfl,keepG [7,11] SD2.loc (by omega) (by decide) hJ⟩
   | 7,ho=>
     cases ho
     exact o_st1 size4 (.tmp 10) _ rfl rfl b (3+n) 0 (.bool false) ⟨rfl,rfl⟩ (hx9 (hi9 hin 6 10) rfl) rfl (SD2.no hJ hlf) rfl (by show 3+n<40;omega) (Lo.ho_set _ ln n hn false) (fun W hM=>⟨undef,rfl,told_no rfl,nextG (by omega) hM⟩)
   | 8,ho=>
     cases ho
     exact o_nil (.tmp 6) rfl _ (hx9 (hi9 hin 2 6) rfl) ⟨_,rfl,told_of rfl,keepG [7,11] SD2.loc (by omega) (by decide) hJ⟩
   | 9,ho=>
     cases ho
     exact o_fld75_4 (.tmp 11) rfl b (0) (11) rfl (hx9 (hi9 hin 8 11) rfl) ⟨_,rfl,told_of rfl,keepG [7,11] SD2.loc (by omega) (by decide) hJ⟩
   | 10,ho=>
     cases ho
     exact o_idx37 (.tmp 12) (.tmp 7) rfl b (11) n (11+n) (hn) rfl (hx9 (hi9 hin 9 12) rfl) (hx9 (hi9 hin 3 7) rfl) ⟨_,rfl,told_of rfl,keepG [7,11] SD2.loc (by omega) (by decide) hJ⟩
   | 11,ho=>
     cases ho
     exact o_st1 size2 (.tmp 13) _ rfl rfl b (11+n) 0 (.int .i64 (0)) ⟨rfl,rfl⟩ (hx9 (hi9 hin 10 13) rfl) rfl (SD2.no2 hJ hlf) rfl (by show 11+n<40;omega) (Lo.ops_set _ ln n hn (0)) (fun W hM=>⟨undef,rfl,told_no rfl,nextG (by omega) hM⟩)
 intro l_ vs4 V4 hl hJ htold
 have t0:vs4 0=P0 b:=told_is _ (htold 0 (by decide)) rfl
 have t1:vs4 1= .int .i64 n:=told_is _ (htold 1 (by decide)) rfl
 have t2:vs4 2=P0 b:=told_is _ (htold 2 (by decide)) rfl
 have t3:vs4 3= .int .i64 n:=told_is _ (htold 3 (by decide)) rfl
 have t4:vs4 4=P0 b:=told_is _ (htold 4 (by decide)) rfl
 have t5:vs4 5= .pointer (some ⟨b,3,none⟩):=told_is _ (htold 5 (by decide)) rfl
 have t6:vs4 6= .pointer (some ⟨b,3+n,none⟩):=told_is _ (htold 6 (by decide)) rfl
 have t8:vs4 8=P0 b:=told_is _ (htold 8 (by decide)) rfl
 have t9:vs4 9= .pointer (some ⟨b,11,none⟩):=told_is _ (htold 9 (by decide)) rfl
 have t10:vs4 10= .pointer (some ⟨b,11+n,none⟩):=told_is _ (htold 10 (by decide)) rfl
 rw [show (List.range 12).map vs4= [vs4 0,vs4 1,vs4 2,vs4 3,vs4 4,vs4 5,vs4 6,vs4 7,vs4 8,vs4 9,vs4 10,vs4 11] from rfl]
 simp only [t0,t1,t2,t3,t4,t5,t6,t8,t9,t10,putAll,Act.put,List.setIfInBounds_toArray,List.set_cons_succ,List.set_cons_zero]
 clear t0 t1 t2 t3 t4 t5 t6 t8 t9 t10 htold
 have hM4:Mm [b] w V4 ([(b,108,(s.give1 n).C ln)]):=SD2.yes hJ (hl 7 (by decide)) (hl 11 (by decide))
 replace M:Hid (Mm [b] w V4 [(b,108,(s.give1 n).C ln)]):=hide hM4
 clear hM4 hJ hl
 have c1:V4.cell? ⟨b,1,none⟩=some (.int .i64 s.ex):=by exact fits_cell ((unhide M).at 0 _ rfl) 1 _ rfl
 have c2:V4.cell? ⟨b,2,none⟩=some (.int .i64 s.ow):=by exact fits_cell ((unhide M).at 0 _ rfl) 2 _ rfl
 go_wp2_with fail
 go_end0
 exact⟨rfl,(unhide M).at 0 _ rfl,(unhide M).kept⟩
theorem give50 (s:Lo) (ln:Value) (b n:Nat) (w:World) (h:Blk w b 108 (s.C ln)) (hn:n<8):Calls Try.prog 77 #[P0 b,.int .i64 n] w (LV b ln w (s.give n)):=by
 by_cases h1:s.ex=(n:Int)
 · by_cases h2:s.ow=(n:Int)
   · have:=give_bb s ln b n w h hn h1 h2
     rw [show s.give n=((s.give1 n).noEx).noOw by simp [Lo.give,Lo.give1,Lo.noEx,Lo.noOw,h1,h2]];exact this
   · have:=give_ba s ln b n w h hn h1 h2
     rw [show s.give n=(s.give1 n).noEx by simp [Lo.give,Lo.give1,Lo.noEx,h1,h2]];exact this
 · by_cases h2:s.ow=(n:Int)
   · have:=give_ab s ln b n w h hn h1 h2
     rw [show s.give n=(s.give1 n).noOw by simp [Lo.give,Lo.give1,Lo.noOw,h1,h2]];exact this
   · have:=give_aa s ln b n w h hn h1 h2
     rw [show s.give n=s.give1 n by simp [Lo.give,Lo.give1,h1,h2]];exact this
theorem isGone_a (s:Lo) (ln:Value) (b n:Nat) (w:World) (h:Blk w b 108 (s.C ln)) (hs:s.Ok) (hn:n<8) (he:emp (s.setWa n false).wa=true):Calls Try.prog 78 #[P0 b,.int .i64 n] w (LR b ln w (s.setWa n false).handOver):=by
 have M:=hide (Mm.one h)
 have HS:=hide hs
 have HE:=hide he
 have hnI:(n:Int)<8:=by omega
 clear h hs he
 go_enter Try.func78,Try.ntmps78
 go_wp2_with (first |(refine wpSt1 size4 rfl (.tmp 9) (.const (.bool false)) rfl rfl b (32+n) 0 (.bool false) (⟨rfl,rfl⟩) rfl rfl (unhide M) rfl (by show 32+n<40;omega) (Lo.wa_set s ln n hn false) ?_;intro W1 N1;replace M:Hid (Mm [b] w W1 [(b,108,(s.setWa n false).C ln)]):=hide N1;clear N1;refine Stp.go ?_))
 constructor
 go_wp2_with (first |(refine wpLoadA row73 rfl (.tmp 12) rfl b (32) rfl (b8 (s.setWa n false).wa) rfl (((unhide M).at 0 _ rfl).waA) ?_;refine Stp.go ?_))
 constructor
 go_wp2_with (first |(refine wpBuildZ (T:=106) (b8 no8) build73 rfl rfl ?_;refine Stp.go ?_))
 constructor
 go_wp2_with (first |(refine wpNeqA 106 106 guard73 (.tmp 13) (.tmp 14) rfl rfl (b8 (s.setWa n false).wa) (b8 no8) rfl rfl true ((eqA73 _ _ _).trans (by have h9:=unhide HE;unfold emp at h9;rw [h9])) ?_;refine Stp.go ?_))
 constructor
 go_wp2_with (first |(go_at_call 93;refine(handOver67 (s.setWa n false) ln b _ ((unhide M).at 0 _ rfl) (setWa_ok (unhide HS) _ _)).mono ?_;rintro e W2 ⟨xv,rfl,N2,B2,K2⟩;have HO:Hid _:=hide (N2.elder (w:=w) (unhide M).kept.size);replace M:Hid (Mm [b] w W2 [(b,108,(s.setWa n false).handOver.1.C ln)]):=hide ((unhide M).mut 0 rfl K2 B2);clear N2 B2 K2;refine Stp.go ?_))
 constructor
 go_wp2_with fail
 go_ret
 exact⟨xv,rfl,unhide HO,(unhide M).at 0 _ rfl,(unhide M).kept⟩
theorem isGone_b (s:Lo) (ln:Value) (b n:Nat) (w:World) (h:Blk w b 108 (s.C ln)) (hs:s.Ok) (hn:n<8) (he:emp (s.setWa n false).wa=false):Calls Try.prog 78 #[P0 b,.int .i64 n] w (LR b ln w ((s.setWa n false),[])):=by
 have M:=hide (Mm.one h)
 have HS:=hide hs
 have HE:=hide he
 have hnI:(n:Int)<8:=by omega
 clear h hs he
 go_enter Try.func78,Try.ntmps78
 go_wp2_with (first |(refine wpSt1 size4 rfl (.tmp 9) (.const (.bool false)) rfl rfl b (32+n) 0 (.bool false) (⟨rfl,rfl⟩) rfl rfl (unhide M) rfl (by show 32+n<40;omega) (Lo.wa_set s ln n hn false) ?_;intro W1 N1;replace M:Hid (Mm [b] w W1 [(b,108,(s.setWa n false).C ln)]):=hide N1;clear N1;refine Stp.go ?_))
 constructor
 go_wp2_with (first |(refine wpLoadA row73 rfl (.tmp 12) rfl b (32) rfl (b8 (s.setWa n false).wa) rfl (((unhide M).at 0 _ rfl).waA) ?_;refine Stp.go ?_))
 constructor
 go_wp2_with (first |(refine wpBuildZ (T:=106) (b8 no8) build73 rfl rfl ?_;refine Stp.go ?_))
 constructor
 go_wp2_with (first |(refine wpNeqA 106 106 guard73 (.tmp 13) (.tmp 14) rfl rfl (b8 (s.setWa n false).wa) (b8 no8) rfl rfl false ((eqA73 _ _ _).trans (by have h9:=unhide HE;unfold emp at h9;rw [h9])) ?_;refine Stp.go ?_))
 constructor
 go_wp2_with fail
 go_ret
 exact⟨_,rfl,New.nil _ _ _ _,(unhide M).at 0 _ rfl,(unhide M).kept⟩
theorem isGone51 (s:Lo) (ln:Value) (b n:Nat) (w:World) (h:Blk w b 108 (s.C ln)) (hs:s.Ok) (hn:n<8):Calls Try.prog 78 #[P0 b,.int .i64 n] w (LR b ln w (s.isGone n)):=by
 unfold Lo.isGone
 cases he:emp (s.setWa n false).wa with
 | true=>exact isGone_a s ln b n w h hs hn he
 | false=>exact isGone_b s ln b n w h hs hn he
theorem nowSh_a (s:Lo) (ln:Value) (b n:Nat) (w:World) (h:Blk w b 108 (s.C ln)) (hn:n<8) (h1:s.su= -1):Calls Try.prog 80 #[P0 b,.int .i64 n] w (LV b ln w (s.noEx.put n)):=by
 have M:=hide (Mm.one h)
 have hnI:(n:Int)<8:=by omega
 clear h
 go_enter Try.func80,Try.ntmps80
 go_wp2_with (first |(refine wpSt1 size3 rfl (.tmp 6) (.const (.int .i64 (-1))) rfl rfl b (1) 0 (.int .i64 (-1)) (⟨rfl,rfl⟩) rfl rfl (unhide M) rfl (show 1+1≤_ from Nat.le_of_ble_eq_true rfl) (rfl) ?_;intro W1 N1;replace M:Hid (Mm [b] w W1 [(b,108,s.noEx.C ln)]):=hide N1;clear N1;refine Stp.go ?_))
 constructor
 go_wp2_with fail
 refine wp_region_any mixed (wpAny_tq 16 rfl (by kernel_rfl) [some (P0 b),some (P0 b),some (.pointer (some ⟨b,31,none⟩)),some (.int .i64 (-1)),some (.bool false),some (.bool false),none,none,none,none,none,none,none,none,none,some (.bool false)] rfl (by kernel_rfl) (by kernel_rfl) ?_ ?_)
 · intro i o' hi hsk ho a' w2 hout hin hk2
   replace hk2:Kept [] W1 w2:=ud hk2
   match i,ho,hsk with
   | 0,ho,hsk=>
     cases ho
     exact wp_move (.tmp 0) rfl _ ((ho9 hout 0).trans rfl) (tE rfl)
   | 1,ho,hsk=>
     cases ho
     exact o_nil (.tmp 7) rfl _ (is_tq (hi9 hin 0 7) rfl) (tE rfl)
   | 2,ho,hsk=>
     cases ho
     exact o_fld75_9 (.tmp 8) rfl b (0) (31) rfl (is_tq (hi9 hin 1 8) rfl) (tE rfl)
   | 3,ho,hsk=>
     cases ho
     exact o_load3 (.tmp 9) rfl _ _ (is_tq (hi9 hin 2 9) rfl) (by have h9:=fits_cell (((unhide M).step hk2).at 0 _ rfl) 31 _ rfl;rw [show s.noEx.su=_ from h1] at h9;exact h9) (tE rfl)
   | 4,ho,hsk=>
     cases ho
     exact c_neq3 (.tmp 10) (.const (.int .i64 (-1))) rfl _ _ (true) (rfl) (is_tq (hi9 hin 3 10) rfl) rfl (tE rfl)
   | 5,ho,hsk=>
     cases ho
     exact wp_move (.tmp 11) rfl _ (is_tq (hi9 hin 4 11) rfl) (tE rfl)
   | 6,ho,hsk=>
     cases hsk
   | 7,ho,hsk=>
     cases hsk
   | 8,ho,hsk=>
     cases hsk
   | 9,ho,hsk=>
     cases hsk
   | 10,ho,hsk=>
     cases hsk
   | 11,ho,hsk=>
     cases hsk
   | 12,ho,hsk=>
     cases hsk
   | 13,ho,hsk=>
     cases hsk
   | 14,ho,hsk=>
     cases hsk
   | 15,ho,hsk=>
     cases ho
     exact o_pickN (.tmp 12) (.tmp 21) rfl (is_tq (hi9 hin 5 12) rfl) (tE rfl)
 intro w9 hk9
 replace hk9:Kept [] W1 w9:=ud hk9
 simp only [valsQ,List.map_cons,List.map_nil,Option.getD_some,Option.getD_none,List.take_succ_cons,List.take_zero,putAll,Act.put,List.setIfInBounds_toArray,List.set_cons_succ,List.set_cons_zero]
 refine wpAny_done (by kernel_rfl) ?_ _
 replace M:=hide ((unhide M).step hk9)
 clear hk9
 go_wp2_with fail
 refine wp_region_any mixed (wpAny_gx 16 rfl (by kernel_rfl) [some (P0 b),some (.int .i64 n),some (P0 b),some (.int .i64 n),some (P0 b),some (P0 b),some (.pointer (some ⟨b,30,none⟩)),some (.int .i64 s.noEx.op),some (P0 b),some (.pointer (some ⟨b,3,none⟩)),some (.pointer (some ⟨b,3+n,none⟩)),none,some (P0 b),some (.pointer (some ⟨b,11,none⟩)),some (.pointer (some ⟨b,11+n,none⟩)),none] rfl (by kernel_rfl) (fun l vs W=>(SD2 [b] w (fun d1 d2=> [(b,108,Lo.C { s.noEx with ho:=cond d1 (upd s.noEx.ho n true) s.noEx.ho,ops:=cond d2 (upd s.noEx.ops n (s.noEx.op)) s.noEx.ops } ln)]) 11 15) (fun i=>l.getD i false) vs W) ((unhide M).drew) ?_ ?_)
 · intro ix o' hi ho a' w2 l vs hls hlf hJ hout hin hdep hnot
   match ix,ho with
   | 0,ho=>
     cases ho
     have e0:=ho9 hout 0
     replace e0:a'.eval (.tmp 0)=_:=e0.trans rfl
     exact wp_move (.tmp 0) rfl _ e0 ⟨_,rfl,told_of rfl,keepG [11,15] SD2.loc (by omega) (by decide) hJ⟩
   | 1,ho=>
     cases ho
     have e0:=ho9 hout 1
     replace e0:a'.eval (.tmp 1)=_:=e0.trans rfl
     exact wp_move (.tmp 1) rfl _ e0 ⟨_,rfl,told_of rfl,keepG [11,15] SD2.loc (by omega) (by decide) hJ⟩
   | 2,ho=>
     cases ho
     have e0:=ho9 hout 0
     replace e0:a'.eval (.tmp 0)=_:=e0.trans rfl
     exact wp_move (.tmp 0) rfl _ e0 ⟨_,rfl,told_of rfl,keepG [11,15] SD2.loc (by omega) (by decide) hJ⟩
   | 3,ho=>
     cases ho
     have e0:=ho9 hout 1
     replace e0:a'.eval (.tmp 1)=_:=e0.trans rfl
     exact wp_move (.tmp 1) rfl _ e0 ⟨_,rfl,told_of rfl,keepG [11,15] SD2.loc (by omega) (by decide) hJ⟩
   | 4,ho=>
     cases ho
     have e0:=ho9 hout 0
     replace e0:a'.eval (.tmp 0)=_:=e0.trans rfl
     exact wp_move (.tmp 0) rfl _ e0 ⟨_,rfl,told_of rfl,keepG [11,15] SD2.loc (by omega) (by decide) hJ⟩
   | 5,ho=>
     cases ho
     exact o_nil (.tmp 39) rfl _ (hx9 (hi9 hin 4 39) rfl) ⟨_,rfl,told_of rfl,keepG [11,15] SD2.loc (by omega) (by decide) hJ⟩
   | 6,ho=>
     cases ho
     exact o_fld75_8 (.tmp 40) rfl b (0) (30) rfl (hx9 (hi9 hin 5 40) rfl) ⟨_,rfl,told_of rfl,keepG [11,15] SD2.loc (by omega) (by decide) hJ⟩
   | 7,ho=>
     cases ho
     exact o_load2 (.tmp 41) rfl _ _ (hx9 (hi9 hin 6 41) rfl) (fits_cell (Mm.at hJ 0 _ rfl) 30 _ rfl) ⟨_,rfl,told_of rfl,keepG [11,15] SD2.loc (by omega) (by decide) hJ⟩
   | 8,ho=>
     cases ho
     exact o_nil (.tmp 35) rfl _ (hx9 (hi9 hin 0 35) rfl) ⟨_,rfl,told_of rfl,keepG [11,15] SD2.loc (by omega) (by decide) hJ⟩
   | 9,ho=>
     cases ho
     exact o_fld75_3 (.tmp 43) rfl b (0) (3) rfl (hx9 (hi9 hin 8 43) rfl) ⟨_,rfl,told_of rfl,keepG [11,15] SD2.loc (by omega) (by decide) hJ⟩
   | 10,ho=>
     cases ho
     exact o_idx73 (.tmp 44) (.tmp 36) rfl b (3) n (3+n) (hn) rfl (hx9 (hi9 hin 9 44) rfl) (hx9 (hi9 hin 1 36) rfl) ⟨_,rfl,told_of rfl,keepG [11,15] SD2.loc (by omega) (by decide) hJ⟩
   | 11,ho=>
     cases ho
     exact o_st1 size4 (.tmp 45) _ rfl rfl b (3+n) 0 (.bool true) ⟨rfl,rfl⟩ (hx9 (hi9 hin 10 45) rfl) rfl (SD2.no hJ hlf) rfl (by show 3+n<40;omega) (Lo.ho_set _ ln n hn true) (fun W hM=>⟨undef,rfl,told_no rfl,nextG (by omega) hM⟩)
   | 12,ho=>
     cases ho
     exact o_nil (.tmp 37) rfl _ (hx9 (hi9 hin 2 37) rfl) ⟨_,rfl,told_of rfl,keepG [11,15] SD2.loc (by omega) (by decide) hJ⟩
   | 13,ho=>
     cases ho
     exact o_fld75_4 (.tmp 46) rfl b (0) (11) rfl (hx9 (hi9 hin 12 46) rfl) ⟨_,rfl,told_of rfl,keepG [11,15] SD2.loc (by omega) (by decide) hJ⟩
   | 14,ho=>
     cases ho
     exact o_idx37 (.tmp 47) (.tmp 38) rfl b (11) n (11+n) (hn) rfl (hx9 (hi9 hin 13 47) rfl) (hx9 (hi9 hin 3 38) rfl) ⟨_,rfl,told_of rfl,keepG [11,15] SD2.loc (by omega) (by decide) hJ⟩
   | 15,ho=>
     cases ho
     exact o_st1 size2 (.tmp 48) (.tmp 42) rfl rfl b (11+n) 0 (.int .i64 (s.noEx.op)) ⟨rfl,rfl⟩ (hx9 (hi9 hin 14 48) rfl) (hx9 (hi9 hin 7 42) rfl) (SD2.no2 hJ hlf) rfl (by show 11+n<40;omega) (Lo.ops_set _ ln n hn (s.noEx.op)) (fun W hM=>⟨undef,rfl,told_no rfl,nextG (by omega) hM⟩)
 intro l_ vs4 V4 hl hJ htold
 have t0:vs4 0=P0 b:=told_is _ (htold 0 (by decide)) rfl
 have t1:vs4 1= .int .i64 n:=told_is _ (htold 1 (by decide)) rfl
 have t2:vs4 2=P0 b:=told_is _ (htold 2 (by decide)) rfl
 have t3:vs4 3= .int .i64 n:=told_is _ (htold 3 (by decide)) rfl
 have t4:vs4 4=P0 b:=told_is _ (htold 4 (by decide)) rfl
 have t5:vs4 5=P0 b:=told_is _ (htold 5 (by decide)) rfl
 have t6:vs4 6= .pointer (some ⟨b,30,none⟩):=told_is _ (htold 6 (by decide)) rfl
 have t7:vs4 7= .int .i64 s.noEx.op:=told_is _ (htold 7 (by decide)) rfl
 have t8:vs4 8=P0 b:=told_is _ (htold 8 (by decide)) rfl
 have t9:vs4 9= .pointer (some ⟨b,3,none⟩):=told_is _ (htold 9 (by decide)) rfl
 have t10:vs4 10= .pointer (some ⟨b,3+n,none⟩):=told_is _ (htold 10 (by decide)) rfl
 have t12:vs4 12=P0 b:=told_is _ (htold 12 (by decide)) rfl
 have t13:vs4 13= .pointer (some ⟨b,11,none⟩):=told_is _ (htold 13 (by decide)) rfl
 have t14:vs4 14= .pointer (some ⟨b,11+n,none⟩):=told_is _ (htold 14 (by decide)) rfl
 rw [show (List.range 16).map vs4= [vs4 0,vs4 1,vs4 2,vs4 3,vs4 4,vs4 5,vs4 6,vs4 7,vs4 8,vs4 9,vs4 10,vs4 11,vs4 12,vs4 13,vs4 14,vs4 15] from rfl]
 simp only [t0,t1,t2,t3,t4,t5,t6,t7,t8,t9,t10,t12,t13,t14,putAll,Act.put,List.setIfInBounds_toArray,List.set_cons_succ,List.set_cons_zero]
 clear t0 t1 t2 t3 t4 t5 t6 t7 t8 t9 t10 t12 t13 t14 htold
 have hM4:Mm [b] w V4 ([(b,108,(s.noEx.put n).C ln)]):=SD2.yes hJ (hl 11 (by decide)) (hl 15 (by decide))
 replace M:Hid (Mm [b] w V4 [(b,108,(s.noEx.put n).C ln)]):=hide hM4
 clear hM4 hJ hl
 go_wp2_with fail
 go_end0
 exact⟨rfl,(unhide M).at 0 _ rfl,(unhide M).kept⟩
theorem nowSh_b (s:Lo) (ln:Value) (b n:Nat) (w:World) (h:Blk w b 108 (s.C ln)) (hn:n<8) (m:Nat) (hm:m<8) (h1:s.su=(m:Int)) (h2:s.ho m=false):Calls Try.prog 80 #[P0 b,.int .i64 n] w (LV b ln w (s.noEx.put n)):=by
 have M:=hide (Mm.one h)
 have hnI:(n:Int)<8:=by omega
 have h0:decide ((m:Int)= -1)=false:=by rw [decide_eq_false_iff_not];omega
 clear h
 go_enter Try.func80,Try.ntmps80
 go_wp2_with (first |(refine wpSt1 size3 rfl (.tmp 6) (.const (.int .i64 (-1))) rfl rfl b (1) 0 (.int .i64 (-1)) (⟨rfl,rfl⟩) rfl rfl (unhide M) rfl (show 1+1≤_ from Nat.le_of_ble_eq_true rfl) (rfl) ?_;intro W1 N1;replace M:Hid (Mm [b] w W1 [(b,108,s.noEx.C ln)]):=hide N1;clear N1;refine Stp.go ?_))
 constructor
 go_wp2_with fail
 refine wp_region_any mixed (wpAny_tq 16 rfl (by kernel_rfl) [some (P0 b),some (P0 b),some (.pointer (some ⟨b,31,none⟩)),some (.int .i64 m),some (.bool true),some (.bool true),some (P0 b),some (P0 b),some (P0 b),some (.pointer (some ⟨b,31,none⟩)),some (.int .i64 m),some (P0 b),some (.pointer (some ⟨b,3,none⟩)),some (.pointer (some ⟨b,3+m,none⟩)),some (.bool false),some (.bool false)] rfl (by kernel_rfl) (by kernel_rfl) ?_ ?_)
 · intro i o' hi hsk ho a' w2 hout hin hk2
   replace hk2:Kept [] W1 w2:=ud hk2
   match i,ho,hsk with
   | 0,ho,hsk=>
     cases ho
     exact wp_move (.tmp 0) rfl _ ((ho9 hout 0).trans rfl) (tE rfl)
   | 1,ho,hsk=>
     cases ho
     exact o_nil (.tmp 7) rfl _ (is_tq (hi9 hin 0 7) rfl) (tE rfl)
   | 2,ho,hsk=>
     cases ho
     exact o_fld75_9 (.tmp 8) rfl b (0) (31) rfl (is_tq (hi9 hin 1 8) rfl) (tE rfl)
   | 3,ho,hsk=>
     cases ho
     exact o_load3 (.tmp 9) rfl _ _ (is_tq (hi9 hin 2 9) rfl) (by have h9:=fits_cell (((unhide M).step hk2).at 0 _ rfl) 31 _ rfl;rw [show s.noEx.su=_ from h1] at h9;exact h9) (tE rfl)
   | 4,ho,hsk=>
     cases ho
     exact c_neq3 (.tmp 10) (.const (.int .i64 (-1))) rfl _ _ (false) (h0) (is_tq (hi9 hin 3 10) rfl) rfl (tE rfl)
   | 5,ho,hsk=>
     cases ho
     exact wp_move (.tmp 11) rfl _ (is_tq (hi9 hin 4 11) rfl) (tE rfl)
   | 6,ho,hsk=>
     cases ho
     exact wp_move (.tmp 0) rfl _ ((ho9 hout 0).trans rfl) (tE rfl)
   | 7,ho,hsk=>
     cases ho
     exact wp_move (.tmp 0) rfl _ ((ho9 hout 0).trans rfl) (tE rfl)
   | 8,ho,hsk=>
     cases ho
     exact o_nil (.tmp 14) rfl _ (is_tq (hi9 hin 7 14) rfl) (tE rfl)
   | 9,ho,hsk=>
     cases ho
     exact o_fld75_9 (.tmp 15) rfl b (0) (31) rfl (is_tq (hi9 hin 8 15) rfl) (tE rfl)
   | 10,ho,hsk=>
     cases ho
     exact o_load3 (.tmp 16) rfl _ _ (is_tq (hi9 hin 9 16) rfl) (by have h9:=fits_cell (((unhide M).step hk2).at 0 _ rfl) 31 _ rfl;rw [show s.noEx.su=_ from h1] at h9;exact h9) (tE rfl)
   | 11,ho,hsk=>
     cases ho
     exact o_nil (.tmp 13) rfl _ (is_tq (hi9 hin 6 13) rfl) (tE rfl)
   | 12,ho,hsk=>
     cases ho
     exact o_fld75_3 (.tmp 18) rfl b (0) (3) rfl (is_tq (hi9 hin 11 18) rfl) (tE rfl)
   | 13,ho,hsk=>
     cases ho
     exact o_idx73 (.tmp 19) (.tmp 17) rfl b (3) m (3+m) (hm) rfl (is_tq (hi9 hin 12 19) rfl) (is_tq (hi9 hin 10 17) rfl) (tE rfl)
   | 14,ho,hsk=>
     cases ho
     exact o_load4 (.tmp 20) rfl _ _ (is_tq (hi9 hin 13 20) rfl) (by have h9:=Blk.ho (((unhide M).step hk2).at 0 _ rfl) (hm);rw [show s.noEx.ho m=_ from h2] at h9;exact h9) (tE rfl)
   | 15,ho,hsk=>
     cases ho
     exact o_pick (.tmp 12) (.tmp 21) rfl _ (is_tq (hi9 hin 5 12) rfl) (is_tq (hi9 hin 14 21) rfl) (tE rfl)
 intro w9 hk9
 replace hk9:Kept [] W1 w9:=ud hk9
 simp only [valsQ,List.map_cons,List.map_nil,Option.getD_some,List.take_succ_cons,List.take_zero,putAll,Act.put,List.setIfInBounds_toArray,List.set_cons_succ,List.set_cons_zero]
 refine wpAny_done (by kernel_rfl) ?_ _
 replace M:=hide ((unhide M).step hk9)
 clear hk9
 go_wp2_with fail
 refine wp_region_any mixed (wpAny_gx 16 rfl (by kernel_rfl) [some (P0 b),some (.int .i64 n),some (P0 b),some (.int .i64 n),some (P0 b),some (P0 b),some (.pointer (some ⟨b,30,none⟩)),some (.int .i64 s.noEx.op),some (P0 b),some (.pointer (some ⟨b,3,none⟩)),some (.pointer (some ⟨b,3+n,none⟩)),none,some (P0 b),some (.pointer (some ⟨b,11,none⟩)),some (.pointer (some ⟨b,11+n,none⟩)),none] rfl (by kernel_rfl) (fun l vs W=>(SD2 [b] w (fun d1 d2=> [(b,108,Lo.C { s.noEx with ho:=cond d1 (upd s.noEx.ho n true) s.noEx.ho,ops:=cond d2 (upd s.noEx.ops n (s.noEx.op)) s.noEx.ops } ln)]) 11 15) (fun i=>l.getD i false) vs W) ((unhide M).drew) ?_ ?_)
 · intro ix o' hi ho a' w2 l vs hls hlf hJ hout hin hdep hnot
   match ix,ho with
   | 0,ho=>
     cases ho
     have e0:=ho9 hout 0
     replace e0:a'.eval (.tmp 0)=_:=e0.trans rfl
     exact wp_move (.tmp 0) rfl _ e0 ⟨_,rfl,told_of rfl,keepG [11,15] SD2.loc (by omega) (by decide) hJ⟩
   | 1,ho=>
     cases ho
     have e0:=ho9 hout 1
     replace e0:a'.eval (.tmp 1)=_:=e0.trans rfl
     exact wp_move (.tmp 1) rfl _ e0 ⟨_,rfl,told_of rfl,keepG [11,15] SD2.loc (by omega) (by decide) hJ⟩
   | 2,ho=>
     cases ho
     have e0:=ho9 hout 0
     replace e0:a'.eval (.tmp 0)=_:=e0.trans rfl
     exact wp_move (.tmp 0) rfl _ e0 ⟨_,rfl,told_of rfl,keepG [11,15] SD2.loc (by omega) (by decide) hJ⟩
   | 3,ho=>
     cases ho
     have e0:=ho9 hout 1
     replace e0:a'.eval (.tmp 1)=_:=e0.trans rfl
     exact wp_move (.tmp 1) rfl _ e0 ⟨_,rfl,told_of rfl,keepG [11,15] SD2.loc (by omega) (by decide) hJ⟩
   | 4,ho=>
     cases ho
     have e0:=ho9 hout 0
     replace e0:a'.eval (.tmp 0)=_:=e0.trans rfl
     exact wp_move (.tmp 0) rfl _ e0 ⟨_,rfl,told_of rfl,keepG [11,15] SD2.loc (by omega) (by decide) hJ⟩
   | 5,ho=>
     cases ho
     exact o_nil (.tmp 39) rfl _ (hx9 (hi9 hin 4 39) rfl) ⟨_,rfl,told_of rfl,keepG [11,15] SD2.loc (by omega) (by decide) hJ⟩
   | 6,ho=>
     cases ho
     exact o_fld75_8 (.tmp 40) rfl b (0) (30) rfl (hx9 (hi9 hin 5 40) rfl) ⟨_,rfl,told_of rfl,keepG [11,15] SD2.loc (by omega) (by decide) hJ⟩
   | 7,ho=>
     cases ho
     exact o_load2 (.tmp 41) rfl _ _ (hx9 (hi9 hin 6 41) rfl) (fits_cell (Mm.at hJ 0 _ rfl) 30 _ rfl) ⟨_,rfl,told_of rfl,keepG [11,15] SD2.loc (by omega) (by decide) hJ⟩
   | 8,ho=>
     cases ho
     exact o_nil (.tmp 35) rfl _ (hx9 (hi9 hin 0 35) rfl) ⟨_,rfl,told_of rfl,keepG [11,15] SD2.loc (by omega) (by decide) hJ⟩
   | 9,ho=>
     cases ho
     exact o_fld75_3 (.tmp 43) rfl b (0) (3) rfl (hx9 (hi9 hin 8 43) rfl) ⟨_,rfl,told_of rfl,keepG [11,15] SD2.loc (by omega) (by decide) hJ⟩
   | 10,ho=>
     cases ho
     exact o_idx73 (.tmp 44) (.tmp 36) rfl b (3) n (3+n) (hn) rfl (hx9 (hi9 hin 9 44) rfl) (hx9 (hi9 hin 1 36) rfl) ⟨_,rfl,told_of rfl,keepG [11,15] SD2.loc (by omega) (by decide) hJ⟩
   | 11,ho=>
     cases ho
     exact o_st1 size4 (.tmp 45) _ rfl rfl b (3+n) 0 (.bool true) ⟨rfl,rfl⟩ (hx9 (hi9 hin 10 45) rfl) rfl (SD2.no hJ hlf) rfl (by show 3+n<40;omega) (Lo.ho_set _ ln n hn true) (fun W hM=>⟨undef,rfl,told_no rfl,nextG (by omega) hM⟩)
   | 12,ho=>
     cases ho
     exact o_nil (.tmp 37) rfl _ (hx9 (hi9 hin 2 37) rfl) ⟨_,rfl,told_of rfl,keepG [11,15] SD2.loc (by omega) (by decide) hJ⟩
   | 13,ho=>
     cases ho
     exact o_fld75_4 (.tmp 46) rfl b (0) (11) rfl (hx9 (hi9 hin 12 46) rfl) ⟨_,rfl,told_of rfl,keepG [11,15] SD2.loc (by omega) (by decide) hJ⟩
   | 14,ho=>
     cases ho
     exact o_idx37 (.tmp 47) (.tmp 38) rfl b (11) n (11+n) (hn) rfl (hx9 (hi9 hin 13 47) rfl) (hx9 (hi9 hin 3 38) rfl) ⟨_,rfl,told_of rfl,keepG [11,15] SD2.loc (by omega) (by decide) hJ⟩
   | 15,ho=>
     cases ho
     exact o_st1 size2 (.tmp 48) (.tmp 42) rfl rfl b (11+n) 0 (.int .i64 (s.noEx.op)) ⟨rfl,rfl⟩ (hx9 (hi9 hin 14 48) rfl) (hx9 (hi9 hin 7 42) rfl) (SD2.no2 hJ hlf) rfl (by show 11+n<40;omega) (Lo.ops_set _ ln n hn (s.noEx.op)) (fun W hM=>⟨undef,rfl,told_no rfl,nextG (by omega) hM⟩)
 intro l_ vs4 V4 hl hJ htold
 have t0:vs4 0=P0 b:=told_is _ (htold 0 (by decide)) rfl
 have t1:vs4 1= .int .i64 n:=told_is _ (htold 1 (by decide)) rfl
 have t2:vs4 2=P0 b:=told_is _ (htold 2 (by decide)) rfl
 have t3:vs4 3= .int .i64 n:=told_is _ (htold 3 (by decide)) rfl
 have t4:vs4 4=P0 b:=told_is _ (htold 4 (by decide)) rfl
 have t5:vs4 5=P0 b:=told_is _ (htold 5 (by decide)) rfl
 have t6:vs4 6= .pointer (some ⟨b,30,none⟩):=told_is _ (htold 6 (by decide)) rfl
 have t7:vs4 7= .int .i64 s.noEx.op:=told_is _ (htold 7 (by decide)) rfl
 have t8:vs4 8=P0 b:=told_is _ (htold 8 (by decide)) rfl
 have t9:vs4 9= .pointer (some ⟨b,3,none⟩):=told_is _ (htold 9 (by decide)) rfl
 have t10:vs4 10= .pointer (some ⟨b,3+n,none⟩):=told_is _ (htold 10 (by decide)) rfl
 have t12:vs4 12=P0 b:=told_is _ (htold 12 (by decide)) rfl
 have t13:vs4 13= .pointer (some ⟨b,11,none⟩):=told_is _ (htold 13 (by decide)) rfl
 have t14:vs4 14= .pointer (some ⟨b,11+n,none⟩):=told_is _ (htold 14 (by decide)) rfl
 rw [show (List.range 16).map vs4= [vs4 0,vs4 1,vs4 2,vs4 3,vs4 4,vs4 5,vs4 6,vs4 7,vs4 8,vs4 9,vs4 10,vs4 11,vs4 12,vs4 13,vs4 14,vs4 15] from rfl]
 simp only [t0,t1,t2,t3,t4,t5,t6,t7,t8,t9,t10,t12,t13,t14,putAll,Act.put,List.setIfInBounds_toArray,List.set_cons_succ,List.set_cons_zero]
 clear t0 t1 t2 t3 t4 t5 t6 t7 t8 t9 t10 t12 t13 t14 htold
 have hM4:Mm [b] w V4 ([(b,108,(s.noEx.put n).C ln)]):=SD2.yes hJ (hl 11 (by decide)) (hl 15 (by decide))
 replace M:Hid (Mm [b] w V4 [(b,108,(s.noEx.put n).C ln)]):=hide hM4
 clear hM4 hJ hl
 go_wp2_with fail
 go_end0
 exact⟨rfl,(unhide M).at 0 _ rfl,(unhide M).kept⟩
theorem nowSh_c (s:Lo) (ln:Value) (b n:Nat) (w:World) (h:Blk w b 108 (s.C ln)) (hn:n<8) (m:Nat) (hm:m<8) (h1:s.su=(m:Int)) (h2:s.ho m=true):Calls Try.prog 80 #[P0 b,.int .i64 n] w (LV b ln w ((s.noEx.setOp m).put n)):=by
 have M:=hide (Mm.one h)
 have hnI:(n:Int)<8:=by omega
 have h0:decide ((m:Int)= -1)=false:=by rw [decide_eq_false_iff_not];omega
 clear h
 go_enter Try.func80,Try.ntmps80
 go_wp2_with (first |(refine wpSt1 size3 rfl (.tmp 6) (.const (.int .i64 (-1))) rfl rfl b (1) 0 (.int .i64 (-1)) (⟨rfl,rfl⟩) rfl rfl (unhide M) rfl (show 1+1≤_ from Nat.le_of_ble_eq_true rfl) (rfl) ?_;intro W1 N1;replace M:Hid (Mm [b] w W1 [(b,108,s.noEx.C ln)]):=hide N1;clear N1;refine Stp.go ?_))
 constructor
 go_wp2_with fail
 refine wp_region_any mixed (wpAny_tq 16 rfl (by kernel_rfl) [some (P0 b),some (P0 b),some (.pointer (some ⟨b,31,none⟩)),some (.int .i64 m),some (.bool true),some (.bool true),some (P0 b),some (P0 b),some (P0 b),some (.pointer (some ⟨b,31,none⟩)),some (.int .i64 m),some (P0 b),some (.pointer (some ⟨b,3,none⟩)),some (.pointer (some ⟨b,3+m,none⟩)),some (.bool true),some (.bool true)] rfl (by kernel_rfl) (by kernel_rfl) ?_ ?_)
 · intro i o' hi hsk ho a' w2 hout hin hk2
   replace hk2:Kept [] W1 w2:=ud hk2
   match i,ho,hsk with
   | 0,ho,hsk=>
     cases ho
     exact wp_move (.tmp 0) rfl _ ((ho9 hout 0).trans rfl) (tE rfl)
   | 1,ho,hsk=>
     cases ho
     exact o_nil (.tmp 7) rfl _ (is_tq (hi9 hin 0 7) rfl) (tE rfl)
   | 2,ho,hsk=>
     cases ho
     exact o_fld75_9 (.tmp 8) rfl b (0) (31) rfl (is_tq (hi9 hin 1 8) rfl) (tE rfl)
   | 3,ho,hsk=>
     cases ho
     exact o_load3 (.tmp 9) rfl _ _ (is_tq (hi9 hin 2 9) rfl) (by have h9:=fits_cell (((unhide M).step hk2).at 0 _ rfl) 31 _ rfl;rw [show s.noEx.su=_ from h1] at h9;exact h9) (tE rfl)
   | 4,ho,hsk=>
     cases ho
     exact c_neq3 (.tmp 10) (.const (.int .i64 (-1))) rfl _ _ (false) (h0) (is_tq (hi9 hin 3 10) rfl) rfl (tE rfl)
   | 5,ho,hsk=>
     cases ho
     exact wp_move (.tmp 11) rfl _ (is_tq (hi9 hin 4 11) rfl) (tE rfl)
   | 6,ho,hsk=>
     cases ho
     exact wp_move (.tmp 0) rfl _ ((ho9 hout 0).trans rfl) (tE rfl)
   | 7,ho,hsk=>
     cases ho
     exact wp_move (.tmp 0) rfl _ ((ho9 hout 0).trans rfl) (tE rfl)
   | 8,ho,hsk=>
     cases ho
     exact o_nil (.tmp 14) rfl _ (is_tq (hi9 hin 7 14) rfl) (tE rfl)
   | 9,ho,hsk=>
     cases ho
     exact o_fld75_9 (.tmp 15) rfl b (0) (31) rfl (is_tq (hi9 hin 8 15) rfl) (tE rfl)
   | 10,ho,hsk=>
     cases ho
     exact o_load3 (.tmp 16) rfl _ _ (is_tq (hi9 hin 9 16) rfl) (by have h9:=fits_cell (((unhide M).step hk2).at 0 _ rfl) 31 _ rfl;rw [show s.noEx.su=_ from h1] at h9;exact h9) (tE rfl)
   | 11,ho,hsk=>
     cases ho
     exact o_nil (.tmp 13) rfl _ (is_tq (hi9 hin 6 13) rfl) (tE rfl)
   | 12,ho,hsk=>
     cases ho
     exact o_fld75_3 (.tmp 18) rfl b (0) (3) rfl (is_tq (hi9 hin 11 18) rfl) (tE rfl)
   | 13,ho,hsk=>
     cases ho
     exact o_idx73 (.tmp 19) (.tmp 17) rfl b (3) m (3+m) (hm) rfl (is_tq (hi9 hin 12 19) rfl) (is_tq (hi9 hin 10 17) rfl) (tE rfl)
   | 14,ho,hsk=>
     cases ho
     exact o_load4 (.tmp 20) rfl _ _ (is_tq (hi9 hin 13 20) rfl) (by have h9:=Blk.ho (((unhide M).step hk2).at 0 _ rfl) (hm);rw [show s.noEx.ho m=_ from h2] at h9;exact h9) (tE rfl)
   | 15,ho,hsk=>
     cases ho
     exact o_pick (.tmp 12) (.tmp 21) rfl _ (is_tq (hi9 hin 5 12) rfl) (is_tq (hi9 hin 14 21) rfl) (tE rfl)
 intro w9 hk9
 replace hk9:Kept [] W1 w9:=ud hk9
 simp only [valsQ,List.map_cons,List.map_nil,Option.getD_some,List.take_succ_cons,List.take_zero,putAll,Act.put,List.setIfInBounds_toArray,List.set_cons_succ,List.set_cons_zero]
 refine wpAny_done (by kernel_rfl) ?_ _
 replace M:=hide ((unhide M).step hk9)
 clear hk9
 go_wp2_with fail
 refine wp_region_any mixed (wpAny_gx 13 rfl (by kernel_rfl) [some (P0 b),some (P0 b),some (P0 b),some (.pointer (some ⟨b,31,none⟩)),some (.int .i64 m),some (P0 b),some (P0 b),some (.pointer (some ⟨b,30,none⟩)),some (.int .i64 s.op),some (P0 b),some (.pointer (some ⟨b,11,none⟩)),some (.pointer (some ⟨b,11+m,none⟩)),none] rfl (by kernel_rfl) (fun l vs W=>(SD1 [b] w (fun d=> [(b,108,Lo.C { s.noEx with ops:=cond d (upd s.ops m s.op) s.ops } ln)]) 12) (fun i=>l.getD i false) vs W) ((unhide M).drew) ?_ ?_)
 · intro ix o' hi ho a' w2 l vs hls hlf hJ hout hin hdep hnot
   match ix,ho with
   | 0,ho=>
     cases ho
     have e0:=ho9 hout 0
     replace e0:a'.eval (.tmp 0)=_:=e0.trans rfl
     exact wp_move (.tmp 0) rfl _ e0 ⟨_,rfl,told_of rfl,keepG [12] SD1.loc (by omega) (by decide) hJ⟩
   | 1,ho=>
     cases ho
     have e0:=ho9 hout 0
     replace e0:a'.eval (.tmp 0)=_:=e0.trans rfl
     exact wp_move (.tmp 0) rfl _ e0 ⟨_,rfl,told_of rfl,keepG [12] SD1.loc (by omega) (by decide) hJ⟩
   | 2,ho=>
     cases ho
     exact o_nil (.tmp 24) rfl _ (hx9 (hi9 hin 1 24) rfl) ⟨_,rfl,told_of rfl,keepG [12] SD1.loc (by omega) (by decide) hJ⟩
   | 3,ho=>
     cases ho
     exact o_fld75_9 (.tmp 25) rfl b (0) (31) rfl (hx9 (hi9 hin 2 25) rfl) ⟨_,rfl,told_of rfl,keepG [12] SD1.loc (by omega) (by decide) hJ⟩
   | 4,ho=>
     cases ho
     exact o_load3 (.tmp 26) rfl _ _ (hx9 (hi9 hin 3 26) rfl) (by have h9:=fits_cell (Mm.at hJ 0 _ rfl) 31 _ rfl;rw [show s.noEx.su=_ from h1] at h9;exact h9) ⟨_,rfl,told_of rfl,keepG [12] SD1.loc (by omega) (by decide) hJ⟩
   | 5,ho=>
     cases ho
     have e0:=ho9 hout 0
     replace e0:a'.eval (.tmp 0)=_:=e0.trans rfl
     exact wp_move (.tmp 0) rfl _ e0 ⟨_,rfl,told_of rfl,keepG [12] SD1.loc (by omega) (by decide) hJ⟩
   | 6,ho=>
     cases ho
     exact o_nil (.tmp 28) rfl _ (hx9 (hi9 hin 5 28) rfl) ⟨_,rfl,told_of rfl,keepG [12] SD1.loc (by omega) (by decide) hJ⟩
   | 7,ho=>
     cases ho
     exact o_fld75_8 (.tmp 29) rfl b (0) (30) rfl (hx9 (hi9 hin 6 29) rfl) ⟨_,rfl,told_of rfl,keepG [12] SD1.loc (by omega) (by decide) hJ⟩
   | 8,ho=>
     cases ho
     exact o_load2 (.tmp 30) rfl _ _ (hx9 (hi9 hin 7 30) rfl) (fits_cell (Mm.at hJ 0 _ rfl) 30 _ rfl) ⟨_,rfl,told_of rfl,keepG [12] SD1.loc (by omega) (by decide) hJ⟩
   | 9,ho=>
     cases ho
     exact o_nil (.tmp 23) rfl _ (hx9 (hi9 hin 0 23) rfl) ⟨_,rfl,told_of rfl,keepG [12] SD1.loc (by omega) (by decide) hJ⟩
   | 10,ho=>
     cases ho
     exact o_fld75_4 (.tmp 32) rfl b (0) (11) rfl (hx9 (hi9 hin 9 32) rfl) ⟨_,rfl,told_of rfl,keepG [12] SD1.loc (by omega) (by decide) hJ⟩
   | 11,ho=>
     cases ho
     exact o_idx37 (.tmp 33) (.tmp 27) rfl b (11) m (11+m) (hm) rfl (hx9 (hi9 hin 10 33) rfl) (hx9 (hi9 hin 4 27) rfl) ⟨_,rfl,told_of rfl,keepG [12] SD1.loc (by omega) (by decide) hJ⟩
   | 12,ho=>
     cases ho
     exact o_st1 size2 (.tmp 34) (.tmp 31) rfl rfl b (11+m) 0 (.int .i64 s.op) ⟨rfl,rfl⟩ (hx9 (hi9 hin 11 34) rfl) (hx9 (hi9 hin 8 31) rfl) (SD1.no hJ hlf) rfl (by show 11+m<40;omega) (Lo.ops_set _ ln m hm s.op) (fun W hM=>⟨undef,rfl,told_no rfl,nextG (by omega) hM⟩)
 intro l_ vs4 V3 hl hJ htold
 have t0:vs4 0=P0 b:=told_is _ (htold 0 (by decide)) rfl
 have t1:vs4 1=P0 b:=told_is _ (htold 1 (by decide)) rfl
 have t2:vs4 2=P0 b:=told_is _ (htold 2 (by decide)) rfl
 have t3:vs4 3= .pointer (some ⟨b,31,none⟩):=told_is _ (htold 3 (by decide)) rfl
 have t4:vs4 4= .int .i64 m:=told_is _ (htold 4 (by decide)) rfl
 have t5:vs4 5=P0 b:=told_is _ (htold 5 (by decide)) rfl
 have t6:vs4 6=P0 b:=told_is _ (htold 6 (by decide)) rfl
 have t7:vs4 7= .pointer (some ⟨b,30,none⟩):=told_is _ (htold 7 (by decide)) rfl
 have t8:vs4 8= .int .i64 s.op:=told_is _ (htold 8 (by decide)) rfl
 have t9:vs4 9=P0 b:=told_is _ (htold 9 (by decide)) rfl
 have t10:vs4 10= .pointer (some ⟨b,11,none⟩):=told_is _ (htold 10 (by decide)) rfl
 have t11:vs4 11= .pointer (some ⟨b,11+m,none⟩):=told_is _ (htold 11 (by decide)) rfl
 rw [show (List.range 13).map vs4= [vs4 0,vs4 1,vs4 2,vs4 3,vs4 4,vs4 5,vs4 6,vs4 7,vs4 8,vs4 9,vs4 10,vs4 11,vs4 12] from rfl]
 simp only [t0,t1,t2,t3,t4,t5,t6,t7,t8,t9,t10,t11,putAll,Act.put,List.setIfInBounds_toArray,List.set_cons_succ,List.set_cons_zero]
 clear t0 t1 t2 t3 t4 t5 t6 t7 t8 t9 t10 t11 htold
 have hM4:Mm [b] w V3 ([(b,108,(s.noEx.setOp m).C ln)]):=SD1.yes hJ (hl 12 (by decide))
 replace M:Hid (Mm [b] w V3 [(b,108,(s.noEx.setOp m).C ln)]):=hide hM4
 clear hM4 hJ hl
 go_wp2_with fail
 refine wp_region_any mixed (wpAny_gx 16 rfl (by kernel_rfl) [some (P0 b),some (.int .i64 n),some (P0 b),some (.int .i64 n),some (P0 b),some (P0 b),some (.pointer (some ⟨b,30,none⟩)),some (.int .i64 ((s.noEx.setOp m).op)),some (P0 b),some (.pointer (some ⟨b,3,none⟩)),some (.pointer (some ⟨b,3+n,none⟩)),none,some (P0 b),some (.pointer (some ⟨b,11,none⟩)),some (.pointer (some ⟨b,11+n,none⟩)),none] rfl (by kernel_rfl) (fun l vs W=>(SD2 [b] w (fun d1 d2=> [(b,108,Lo.C { (s.noEx.setOp m) with ho:=cond d1 (upd (s.noEx.setOp m).ho n true) (s.noEx.setOp m).ho,ops:=cond d2 (upd (s.noEx.setOp m).ops n ((s.noEx.setOp m).op)) (s.noEx.setOp m).ops } ln)]) 11 15) (fun i=>l.getD i false) vs W) ((unhide M).drew) ?_ ?_)
 · intro ix o' hi ho a' w2 l vs hls hlf hJ hout hin hdep hnot
   match ix,ho with
   | 0,ho=>
     cases ho
     have e0:=ho9 hout 0
     replace e0:a'.eval (.tmp 0)=_:=e0.trans rfl
     exact wp_move (.tmp 0) rfl _ e0 ⟨_,rfl,told_of rfl,keepG [11,15] SD2.loc (by omega) (by decide) hJ⟩
   | 1,ho=>
     cases ho
     have e0:=ho9 hout 1
     replace e0:a'.eval (.tmp 1)=_:=e0.trans rfl
     exact wp_move (.tmp 1) rfl _ e0 ⟨_,rfl,told_of rfl,keepG [11,15] SD2.loc (by omega) (by decide) hJ⟩
   | 2,ho=>
     cases ho
     have e0:=ho9 hout 0
     replace e0:a'.eval (.tmp 0)=_:=e0.trans rfl
     exact wp_move (.tmp 0) rfl _ e0 ⟨_,rfl,told_of rfl,keepG [11,15] SD2.loc (by omega) (by decide) hJ⟩
   | 3,ho=>
     cases ho
     have e0:=ho9 hout 1
     replace e0:a'.eval (.tmp 1)=_:=e0.trans rfl
     exact wp_move (.tmp 1) rfl _ e0 ⟨_,rfl,told_of rfl,keepG [11,15] SD2.loc (by omega) (by decide) hJ⟩
   | 4,ho=>
     cases ho
     have e0:=ho9 hout 0
     replace e0:a'.eval (.tmp 0)=_:=e0.trans rfl
     exact wp_move (.tmp 0) rfl _ e0 ⟨_,rfl,told_of rfl,keepG [11,15] SD2.loc (by omega) (by decide) hJ⟩
   | 5,ho=>
     cases ho
     exact o_nil (.tmp 39) rfl _ (hx9 (hi9 hin 4 39) rfl) ⟨_,rfl,told_of rfl,keepG [11,15] SD2.loc (by omega) (by decide) hJ⟩
   | 6,ho=>
     cases ho
     exact o_fld75_8 (.tmp 40) rfl b (0) (30) rfl (hx9 (hi9 hin 5 40) rfl) ⟨_,rfl,told_of rfl,keepG [11,15] SD2.loc (by omega) (by decide) hJ⟩
   | 7,ho=>
     cases ho
     exact o_load2 (.tmp 41) rfl _ _ (hx9 (hi9 hin 6 41) rfl) (fits_cell (Mm.at hJ 0 _ rfl) 30 _ rfl) ⟨_,rfl,told_of rfl,keepG [11,15] SD2.loc (by omega) (by decide) hJ⟩
   | 8,ho=>
     cases ho
     exact o_nil (.tmp 35) rfl _ (hx9 (hi9 hin 0 35) rfl) ⟨_,rfl,told_of rfl,keepG [11,15] SD2.loc (by omega) (by decide) hJ⟩
   | 9,ho=>
     cases ho
     exact o_fld75_3 (.tmp 43) rfl b (0) (3) rfl (hx9 (hi9 hin 8 43) rfl) ⟨_,rfl,told_of rfl,keepG [11,15] SD2.loc (by omega) (by decide) hJ⟩
   | 10,ho=>
     cases ho
     exact o_idx73 (.tmp 44) (.tmp 36) rfl b (3) n (3+n) (hn) rfl (hx9 (hi9 hin 9 44) rfl) (hx9 (hi9 hin 1 36) rfl) ⟨_,rfl,told_of rfl,keepG [11,15] SD2.loc (by omega) (by decide) hJ⟩
   | 11,ho=>
     cases ho
     exact o_st1 size4 (.tmp 45) _ rfl rfl b (3+n) 0 (.bool true) ⟨rfl,rfl⟩ (hx9 (hi9 hin 10 45) rfl) rfl (SD2.no hJ hlf) rfl (by show 3+n<40;omega) (Lo.ho_set _ ln n hn true) (fun W hM=>⟨undef,rfl,told_no rfl,nextG (by omega) hM⟩)
   | 12,ho=>
     cases ho
     exact o_nil (.tmp 37) rfl _ (hx9 (hi9 hin 2 37) rfl) ⟨_,rfl,told_of rfl,keepG [11,15] SD2.loc (by omega) (by decide) hJ⟩
   | 13,ho=>
     cases ho
     exact o_fld75_4 (.tmp 46) rfl b (0) (11) rfl (hx9 (hi9 hin 12 46) rfl) ⟨_,rfl,told_of rfl,keepG [11,15] SD2.loc (by omega) (by decide) hJ⟩
   | 14,ho=>
     cases ho
     exact o_idx37 (.tmp 47) (.tmp 38) rfl b (11) n (11+n) (hn) rfl (hx9 (hi9 hin 13 47) rfl) (hx9 (hi9 hin 3 38) rfl) ⟨_,rfl,told_of rfl,keepG [11,15] SD2.loc (by omega) (by decide) hJ⟩
   | 15,ho=>
     cases ho
     exact o_st1 size2 (.tmp 48) (.tmp 42) rfl rfl b (11+n) 0 (.int .i64 ((s.noEx.setOp m).op)) ⟨rfl,rfl⟩ (hx9 (hi9 hin 14 48) rfl) (hx9 (hi9 hin 7 42) rfl) (SD2.no2 hJ hlf) rfl (by show 11+n<40;omega) (Lo.ops_set _ ln n hn ((s.noEx.setOp m).op)) (fun W hM=>⟨undef,rfl,told_no rfl,nextG (by omega) hM⟩)
 intro l_ vs4 V4 hl hJ htold
 have t0:vs4 0=P0 b:=told_is _ (htold 0 (by decide)) rfl
 have t1:vs4 1= .int .i64 n:=told_is _ (htold 1 (by decide)) rfl
 have t2:vs4 2=P0 b:=told_is _ (htold 2 (by decide)) rfl
 have t3:vs4 3= .int .i64 n:=told_is _ (htold 3 (by decide)) rfl
 have t4:vs4 4=P0 b:=told_is _ (htold 4 (by decide)) rfl
 have t5:vs4 5=P0 b:=told_is _ (htold 5 (by decide)) rfl
 have t6:vs4 6= .pointer (some ⟨b,30,none⟩):=told_is _ (htold 6 (by decide)) rfl
 have t7:vs4 7= .int .i64 ((s.noEx.setOp m).op):=told_is _ (htold 7 (by decide)) rfl
 have t8:vs4 8=P0 b:=told_is _ (htold 8 (by decide)) rfl
 have t9:vs4 9= .pointer (some ⟨b,3,none⟩):=told_is _ (htold 9 (by decide)) rfl
 have t10:vs4 10= .pointer (some ⟨b,3+n,none⟩):=told_is _ (htold 10 (by decide)) rfl
 have t12:vs4 12=P0 b:=told_is _ (htold 12 (by decide)) rfl
 have t13:vs4 13= .pointer (some ⟨b,11,none⟩):=told_is _ (htold 13 (by decide)) rfl
 have t14:vs4 14= .pointer (some ⟨b,11+n,none⟩):=told_is _ (htold 14 (by decide)) rfl
 rw [show (List.range 16).map vs4= [vs4 0,vs4 1,vs4 2,vs4 3,vs4 4,vs4 5,vs4 6,vs4 7,vs4 8,vs4 9,vs4 10,vs4 11,vs4 12,vs4 13,vs4 14,vs4 15] from rfl]
 simp only [t0,t1,t2,t3,t4,t5,t6,t7,t8,t9,t10,t12,t13,t14,putAll,Act.put,List.setIfInBounds_toArray,List.set_cons_succ,List.set_cons_zero]
 clear t0 t1 t2 t3 t4 t5 t6 t7 t8 t9 t10 t12 t13 t14 htold
 have hM4:Mm [b] w V4 ([(b,108,((s.noEx.setOp m).put n).C ln)]):=SD2.yes hJ (hl 11 (by decide)) (hl 15 (by decide))
 replace M:Hid (Mm [b] w V4 [(b,108,((s.noEx.setOp m).put n).C ln)]):=hide hM4
 clear hM4 hJ hl
 go_wp2_with fail
 go_end0
 exact⟨rfl,(unhide M).at 0 _ rfl,(unhide M).kept⟩
theorem nowSh58 (s:Lo) (ln:Value) (b n:Nat) (w:World) (h:Blk w b 108 (s.C ln)) (hn:n<8) (hs:s.Ok):Calls Try.prog 80 #[P0 b,.int .i64 n] w (LV b ln w (s.nowSh n)):=by
 have hu:=hs.su
 unfold Lo.nowSh
 by_cases h1:s.su= -1
 · rw [if_neg (by simp [h1])];exact nowSh_a s ln b n w h hn h1
 · have e:s.su=(s.su.toNat:Int):=by omega
   cases h2:s.ho s.su.toNat with
   | false=>rw [if_neg (by simp)];exact nowSh_b s ln b n w h hn _ (by omega) e h2
   | true=>rw [if_pos ⟨h1,rfl⟩];exact nowSh_c s ln b n w h hn _ (by omega) e h2
theorem nowEx_a (s:Lo) (ln:Value) (b n:Nat) (w:World) (h:Blk w b 108 (s.C ln)) (hn:n<8) (h1:s.su= -1):Calls Try.prog 81 #[P0 b,.int .i64 n] w (LV b ln w ((s.none.put n).own n)):=by
 have M:=hide (Mm.one h)
 have hnI:(n:Int)<8:=by omega
 clear h
 go_enter Try.func81,Try.ntmps81
 go_wp2_with fail
 refine wp_region_any mixed (wpAny_tq 16 rfl (by kernel_rfl) [some (P0 b),some (P0 b),some (.pointer (some ⟨b,31,none⟩)),some (.int .i64 (-1)),some (.bool false),some (.bool false),none,none,none,none,none,none,none,none,none,some (.bool false)] rfl (by kernel_rfl) (by kernel_rfl) ?_ ?_)
 · intro i o' hi hsk ho a' w2 hout hin hk2
   replace hk2:Kept [] w w2:=ud hk2
   match i,ho,hsk with
   | 0,ho,hsk=>
     cases ho
     exact wp_move (.tmp 0) rfl _ ((ho9 hout 0).trans rfl) (tE rfl)
   | 1,ho,hsk=>
     cases ho
     exact o_nil (.tmp 4) rfl _ (is_tq (hi9 hin 0 4) rfl) (tE rfl)
   | 2,ho,hsk=>
     cases ho
     exact o_fld75_9 (.tmp 5) rfl b (0) (31) rfl (is_tq (hi9 hin 1 5) rfl) (tE rfl)
   | 3,ho,hsk=>
     cases ho
     exact o_load3 (.tmp 6) rfl _ _ (is_tq (hi9 hin 2 6) rfl) (by have h9:=fits_cell (((unhide M).step hk2).at 0 _ rfl) 31 _ rfl;rw [h1] at h9;exact h9) (tE rfl)
   | 4,ho,hsk=>
     cases ho
     exact c_neq3 (.tmp 7) (.const (.int .i64 (-1))) rfl _ _ (true) (rfl) (is_tq (hi9 hin 3 7) rfl) rfl (tE rfl)
   | 5,ho,hsk=>
     cases ho
     exact wp_move (.tmp 8) rfl _ (is_tq (hi9 hin 4 8) rfl) (tE rfl)
   | 6,ho,hsk=>
     cases hsk
   | 7,ho,hsk=>
     cases hsk
   | 8,ho,hsk=>
     cases hsk
   | 9,ho,hsk=>
     cases hsk
   | 10,ho,hsk=>
     cases hsk
   | 11,ho,hsk=>
     cases hsk
   | 12,ho,hsk=>
     cases hsk
   | 13,ho,hsk=>
     cases hsk
   | 14,ho,hsk=>
     cases hsk
   | 15,ho,hsk=>
     cases ho
     exact o_pickN (.tmp 9) (.tmp 18) rfl (is_tq (hi9 hin 5 9) rfl) (tE rfl)
 intro w9 hk9
 replace hk9:Kept [] w w9:=ud hk9
 simp only [valsQ,List.map_cons,List.map_nil,Option.getD_some,Option.getD_none,List.take_succ_cons,List.take_zero,putAll,Act.put,List.setIfInBounds_toArray,List.set_cons_succ,List.set_cons_zero]
 refine wpAny_done (by kernel_rfl) ?_ _
 replace M:=hide ((unhide M).step hk9)
 clear hk9
 go_wp2_with (first |(refine wpBuildZ (T:=106) (b8 no8) build73 rfl rfl ?_;refine Stp.go ?_))
 constructor
 go_wp2_with (first |(refine wpBuildZ (T:=34) (i8 ze8) build37 rfl rfl ?_;refine Stp.go ?_))
 constructor
 go_wp2_with (first |(refine wpStN row73 rfl (.tmp 33) (.tmp 30) rfl rfl b (3) 0 (b8 no8) rfl rfl rfl (b8_one _) (unhide M) rfl (Nat.le_of_ble_eq_true rfl) (fun W h=>h.hoP no8) ?_;intro W11 N11;replace M:Hid (Mm [b] w W11 [(b,108,({ s with ho:=no8 } :Lo).C ln)]):=hide N11;clear N11;refine Stp.go ?_))
 constructor
 go_wp2_with (first |(refine wpStN row37 rfl (.tmp 35) (.tmp 31) rfl rfl b (11) 0 (i8 ze8) rfl rfl rfl (i8_one _) (unhide M) rfl (Nat.le_of_ble_eq_true rfl) (fun W h=>h.opsP ze8) ?_;intro W12 N12;replace M:Hid (Mm [b] w W12 [(b,108,s.none.C ln)]):=hide N12;clear N12;refine Stp.go ?_))
 constructor
 go_wp2_with fail
 refine wp_region_any mixed (wpAny_gx 16 rfl (by kernel_rfl) [some (P0 b),some (.int .i64 n),some (P0 b),some (.int .i64 n),some (P0 b),some (P0 b),some (.pointer (some ⟨b,30,none⟩)),some (.int .i64 s.none.op),some (P0 b),some (.pointer (some ⟨b,3,none⟩)),some (.pointer (some ⟨b,3+n,none⟩)),none,some (P0 b),some (.pointer (some ⟨b,11,none⟩)),some (.pointer (some ⟨b,11+n,none⟩)),none] rfl (by kernel_rfl) (fun l vs W=>(SD2 [b] w (fun d1 d2=> [(b,108,Lo.C { s.none with ho:=cond d1 (upd s.none.ho n true) s.none.ho,ops:=cond d2 (upd s.none.ops n (s.none.op)) s.none.ops } ln)]) 11 15) (fun i=>l.getD i false) vs W) ((unhide M).drew) ?_ ?_)
 · intro ix o' hi ho a' w2 l vs hls hlf hJ hout hin hdep hnot
   match ix,ho with
   | 0,ho=>
     cases ho
     have e0:=ho9 hout 0
     replace e0:a'.eval (.tmp 0)=_:=e0.trans rfl
     exact wp_move (.tmp 0) rfl _ e0 ⟨_,rfl,told_of rfl,keepG [11,15] SD2.loc (by omega) (by decide) hJ⟩
   | 1,ho=>
     cases ho
     have e0:=ho9 hout 1
     replace e0:a'.eval (.tmp 1)=_:=e0.trans rfl
     exact wp_move (.tmp 1) rfl _ e0 ⟨_,rfl,told_of rfl,keepG [11,15] SD2.loc (by omega) (by decide) hJ⟩
   | 2,ho=>
     cases ho
     have e0:=ho9 hout 0
     replace e0:a'.eval (.tmp 0)=_:=e0.trans rfl
     exact wp_move (.tmp 0) rfl _ e0 ⟨_,rfl,told_of rfl,keepG [11,15] SD2.loc (by omega) (by decide) hJ⟩
   | 3,ho=>
     cases ho
     have e0:=ho9 hout 1
     replace e0:a'.eval (.tmp 1)=_:=e0.trans rfl
     exact wp_move (.tmp 1) rfl _ e0 ⟨_,rfl,told_of rfl,keepG [11,15] SD2.loc (by omega) (by decide) hJ⟩
   | 4,ho=>
     cases ho
     have e0:=ho9 hout 0
     replace e0:a'.eval (.tmp 0)=_:=e0.trans rfl
     exact wp_move (.tmp 0) rfl _ e0 ⟨_,rfl,told_of rfl,keepG [11,15] SD2.loc (by omega) (by decide) hJ⟩
   | 5,ho=>
     cases ho
     exact o_nil (.tmp 40) rfl _ (hx9 (hi9 hin 4 40) rfl) ⟨_,rfl,told_of rfl,keepG [11,15] SD2.loc (by omega) (by decide) hJ⟩
   | 6,ho=>
     cases ho
     exact o_fld75_8 (.tmp 41) rfl b (0) (30) rfl (hx9 (hi9 hin 5 41) rfl) ⟨_,rfl,told_of rfl,keepG [11,15] SD2.loc (by omega) (by decide) hJ⟩
   | 7,ho=>
     cases ho
     exact o_load2 (.tmp 42) rfl _ _ (hx9 (hi9 hin 6 42) rfl) (fits_cell (Mm.at hJ 0 _ rfl) 30 _ rfl) ⟨_,rfl,told_of rfl,keepG [11,15] SD2.loc (by omega) (by decide) hJ⟩
   | 8,ho=>
     cases ho
     exact o_nil (.tmp 36) rfl _ (hx9 (hi9 hin 0 36) rfl) ⟨_,rfl,told_of rfl,keepG [11,15] SD2.loc (by omega) (by decide) hJ⟩
   | 9,ho=>
     cases ho
     exact o_fld75_3 (.tmp 44) rfl b (0) (3) rfl (hx9 (hi9 hin 8 44) rfl) ⟨_,rfl,told_of rfl,keepG [11,15] SD2.loc (by omega) (by decide) hJ⟩
   | 10,ho=>
     cases ho
     exact o_idx73 (.tmp 45) (.tmp 37) rfl b (3) n (3+n) (hn) rfl (hx9 (hi9 hin 9 45) rfl) (hx9 (hi9 hin 1 37) rfl) ⟨_,rfl,told_of rfl,keepG [11,15] SD2.loc (by omega) (by decide) hJ⟩
   | 11,ho=>
     cases ho
     exact o_st1 size4 (.tmp 46) _ rfl rfl b (3+n) 0 (.bool true) ⟨rfl,rfl⟩ (hx9 (hi9 hin 10 46) rfl) rfl (SD2.no hJ hlf) rfl (by show 3+n<40;omega) (Lo.ho_set _ ln n hn true) (fun W hM=>⟨undef,rfl,told_no rfl,nextG (by omega) hM⟩)
   | 12,ho=>
     cases ho
     exact o_nil (.tmp 38) rfl _ (hx9 (hi9 hin 2 38) rfl) ⟨_,rfl,told_of rfl,keepG [11,15] SD2.loc (by omega) (by decide) hJ⟩
   | 13,ho=>
     cases ho
     exact o_fld75_4 (.tmp 47) rfl b (0) (11) rfl (hx9 (hi9 hin 12 47) rfl) ⟨_,rfl,told_of rfl,keepG [11,15] SD2.loc (by omega) (by decide) hJ⟩
   | 14,ho=>
     cases ho
     exact o_idx37 (.tmp 48) (.tmp 39) rfl b (11) n (11+n) (hn) rfl (hx9 (hi9 hin 13 48) rfl) (hx9 (hi9 hin 3 39) rfl) ⟨_,rfl,told_of rfl,keepG [11,15] SD2.loc (by omega) (by decide) hJ⟩
   | 15,ho=>
     cases ho
     exact o_st1 size2 (.tmp 49) (.tmp 43) rfl rfl b (11+n) 0 (.int .i64 (s.none.op)) ⟨rfl,rfl⟩ (hx9 (hi9 hin 14 49) rfl) (hx9 (hi9 hin 7 43) rfl) (SD2.no2 hJ hlf) rfl (by show 11+n<40;omega) (Lo.ops_set _ ln n hn (s.none.op)) (fun W hM=>⟨undef,rfl,told_no rfl,nextG (by omega) hM⟩)
 intro l_ vs4 V4 hl hJ htold
 have t0:vs4 0=P0 b:=told_is _ (htold 0 (by decide)) rfl
 have t1:vs4 1= .int .i64 n:=told_is _ (htold 1 (by decide)) rfl
 have t2:vs4 2=P0 b:=told_is _ (htold 2 (by decide)) rfl
 have t3:vs4 3= .int .i64 n:=told_is _ (htold 3 (by decide)) rfl
 have t4:vs4 4=P0 b:=told_is _ (htold 4 (by decide)) rfl
 have t5:vs4 5=P0 b:=told_is _ (htold 5 (by decide)) rfl
 have t6:vs4 6= .pointer (some ⟨b,30,none⟩):=told_is _ (htold 6 (by decide)) rfl
 have t7:vs4 7= .int .i64 s.none.op:=told_is _ (htold 7 (by decide)) rfl
 have t8:vs4 8=P0 b:=told_is _ (htold 8 (by decide)) rfl
 have t9:vs4 9= .pointer (some ⟨b,3,none⟩):=told_is _ (htold 9 (by decide)) rfl
 have t10:vs4 10= .pointer (some ⟨b,3+n,none⟩):=told_is _ (htold 10 (by decide)) rfl
 have t12:vs4 12=P0 b:=told_is _ (htold 12 (by decide)) rfl
 have t13:vs4 13= .pointer (some ⟨b,11,none⟩):=told_is _ (htold 13 (by decide)) rfl
 have t14:vs4 14= .pointer (some ⟨b,11+n,none⟩):=told_is _ (htold 14 (by decide)) rfl
 rw [show (List.range 16).map vs4= [vs4 0,vs4 1,vs4 2,vs4 3,vs4 4,vs4 5,vs4 6,vs4 7,vs4 8,vs4 9,vs4 10,vs4 11,vs4 12,vs4 13,vs4 14,vs4 15] from rfl]
 simp only [t0,t1,t2,t3,t4,t5,t6,t7,t8,t9,t10,t12,t13,t14,putAll,Act.put,List.setIfInBounds_toArray,List.set_cons_succ,List.set_cons_zero]
 clear t0 t1 t2 t3 t4 t5 t6 t7 t8 t9 t10 t12 t13 t14 htold
 have hM4:Mm [b] w V4 ([(b,108,(s.none.put n).C ln)]):=SD2.yes hJ (hl 11 (by decide)) (hl 15 (by decide))
 replace M:Hid (Mm [b] w V4 [(b,108,(s.none.put n).C ln)]):=hide hM4
 clear hM4 hJ hl
 go_wp2_with (first |(refine wpSt1 size3 rfl (.tmp 55) (.tmp 52) rfl rfl b (1) 0 (.int .i64 n) (⟨rfl,rfl⟩) rfl rfl (unhide M) rfl (show 1+1≤_ from Nat.le_of_ble_eq_true rfl) (rfl) ?_;intro W21 N21;replace M:Hid (Mm [b] w W21 [(b,108,({ s.none.put n with ex:=n } :Lo).C ln)]):=hide N21;clear N21;refine Stp.go ?_))
 constructor
 go_wp2_with (first |(refine wpSt1 size3 rfl (.tmp 57) (.tmp 53) rfl rfl b (2) 0 (.int .i64 n) (⟨rfl,rfl⟩) rfl rfl (unhide M) rfl (show 2+1≤_ from Nat.le_of_ble_eq_true rfl) (rfl) ?_;intro W22 N22;replace M:Hid (Mm [b] w W22 [(b,108,((s.none.put n).own n).C ln)]):=hide N22;clear N22;refine Stp.go ?_))
 constructor
 go_wp2_with fail
 go_end0
 exact⟨rfl,(unhide M).at 0 _ rfl,(unhide M).kept⟩
theorem nowEx_b (s:Lo) (ln:Value) (b n:Nat) (w:World) (h:Blk w b 108 (s.C ln)) (hn:n<8) (m:Nat) (hm:m<8) (h1:s.su=(m:Int)) (h2:¬s.ow=(m:Int)):Calls Try.prog 81 #[P0 b,.int .i64 n] w (LV b ln w ((s.none.put n).own n)):=by
 have M:=hide (Mm.one h)
 have hnI:(n:Int)<8:=by omega
 have h0:decide ((m:Int)= -1)=false:=by rw [decide_eq_false_iff_not];omega
 have h4:decide ((m:Int)=s.ow)=false:=by rw [decide_eq_false_iff_not];omega
 clear h
 go_enter Try.func81,Try.ntmps81
 go_wp2_with fail
 refine wp_region_any mixed (wpAny_tq 16 rfl (by kernel_rfl) [some (P0 b),some (P0 b),some (.pointer (some ⟨b,31,none⟩)),some (.int .i64 m),some (.bool true),some (.bool true),some (P0 b),some (P0 b),some (.pointer (some ⟨b,31,none⟩)),some (.int .i64 m),some (P0 b),some (P0 b),some (.pointer (some ⟨b,2,none⟩)),some (.int .i64 s.ow),some (.bool false),some (.bool false)] rfl (by kernel_rfl) (by kernel_rfl) ?_ ?_)
 · intro i o' hi hsk ho a' w2 hout hin hk2
   replace hk2:Kept [] w w2:=ud hk2
   match i,ho,hsk with
   | 0,ho,hsk=>
     cases ho
     exact wp_move (.tmp 0) rfl _ ((ho9 hout 0).trans rfl) (tE rfl)
   | 1,ho,hsk=>
     cases ho
     exact o_nil (.tmp 4) rfl _ (is_tq (hi9 hin 0 4) rfl) (tE rfl)
   | 2,ho,hsk=>
     cases ho
     exact o_fld75_9 (.tmp 5) rfl b (0) (31) rfl (is_tq (hi9 hin 1 5) rfl) (tE rfl)
   | 3,ho,hsk=>
     cases ho
     exact o_load3 (.tmp 6) rfl _ _ (is_tq (hi9 hin 2 6) rfl) (by have h9:=fits_cell (((unhide M).step hk2).at 0 _ rfl) 31 _ rfl;rw [h1] at h9;exact h9) (tE rfl)
   | 4,ho,hsk=>
     cases ho
     exact c_neq3 (.tmp 7) (.const (.int .i64 (-1))) rfl _ _ (false) (h0) (is_tq (hi9 hin 3 7) rfl) rfl (tE rfl)
   | 5,ho,hsk=>
     cases ho
     exact wp_move (.tmp 8) rfl _ (is_tq (hi9 hin 4 8) rfl) (tE rfl)
   | 6,ho,hsk=>
     cases ho
     exact wp_move (.tmp 0) rfl _ ((ho9 hout 0).trans rfl) (tE rfl)
   | 7,ho,hsk=>
     cases ho
     exact o_nil (.tmp 10) rfl _ (is_tq (hi9 hin 6 10) rfl) (tE rfl)
   | 8,ho,hsk=>
     cases ho
     exact o_fld75_9 (.tmp 11) rfl b (0) (31) rfl (is_tq (hi9 hin 7 11) rfl) (tE rfl)
   | 9,ho,hsk=>
     cases ho
     exact o_load3 (.tmp 12) rfl _ _ (is_tq (hi9 hin 8 12) rfl) (by have h9:=fits_cell (((unhide M).step hk2).at 0 _ rfl) 31 _ rfl;rw [h1] at h9;exact h9) (tE rfl)
   | 10,ho,hsk=>
     cases ho
     exact wp_move (.tmp 0) rfl _ ((ho9 hout 0).trans rfl) (tE rfl)
   | 11,ho,hsk=>
     cases ho
     exact o_nil (.tmp 14) rfl _ (is_tq (hi9 hin 10 14) rfl) (tE rfl)
   | 12,ho,hsk=>
     cases ho
     exact o_fld75_2 (.tmp 15) rfl b (0) (2) rfl (is_tq (hi9 hin 11 15) rfl) (tE rfl)
   | 13,ho,hsk=>
     cases ho
     exact o_load3 (.tmp 16) rfl _ _ (is_tq (hi9 hin 12 16) rfl) (fits_cell (((unhide M).step hk2).at 0 _ rfl) 2 _ rfl) (tE rfl)
   | 14,ho,hsk=>
     cases ho
     exact c_eql3 (.tmp 13) (.tmp 17) rfl _ _ (false) (h4) (is_tq (hi9 hin 9 13) rfl) (is_tq (hi9 hin 13 17) rfl) (tE rfl)
   | 15,ho,hsk=>
     cases ho
     exact o_pick (.tmp 9) (.tmp 18) rfl _ (is_tq (hi9 hin 5 9) rfl) (is_tq (hi9 hin 14 18) rfl) (tE rfl)
 intro w9 hk9
 replace hk9:Kept [] w w9:=ud hk9
 simp only [valsQ,List.map_cons,List.map_nil,Option.getD_some,List.take_succ_cons,List.take_zero,putAll,Act.put,List.setIfInBounds_toArray,List.set_cons_succ,List.set_cons_zero]
 refine wpAny_done (by kernel_rfl) ?_ _
 replace M:=hide ((unhide M).step hk9)
 clear hk9
 go_wp2_with (first |(refine wpBuildZ (T:=106) (b8 no8) build73 rfl rfl ?_;refine Stp.go ?_))
 constructor
 go_wp2_with (first |(refine wpBuildZ (T:=34) (i8 ze8) build37 rfl rfl ?_;refine Stp.go ?_))
 constructor
 go_wp2_with (first |(refine wpStN row73 rfl (.tmp 33) (.tmp 30) rfl rfl b (3) 0 (b8 no8) rfl rfl rfl (b8_one _) (unhide M) rfl (Nat.le_of_ble_eq_true rfl) (fun W h=>h.hoP no8) ?_;intro W11 N11;replace M:Hid (Mm [b] w W11 [(b,108,({ s with ho:=no8 } :Lo).C ln)]):=hide N11;clear N11;refine Stp.go ?_))
 constructor
 go_wp2_with (first |(refine wpStN row37 rfl (.tmp 35) (.tmp 31) rfl rfl b (11) 0 (i8 ze8) rfl rfl rfl (i8_one _) (unhide M) rfl (Nat.le_of_ble_eq_true rfl) (fun W h=>h.opsP ze8) ?_;intro W12 N12;replace M:Hid (Mm [b] w W12 [(b,108,s.none.C ln)]):=hide N12;clear N12;refine Stp.go ?_))
 constructor
 go_wp2_with fail
 refine wp_region_any mixed (wpAny_gx 16 rfl (by kernel_rfl) [some (P0 b),some (.int .i64 n),some (P0 b),some (.int .i64 n),some (P0 b),some (P0 b),some (.pointer (some ⟨b,30,none⟩)),some (.int .i64 s.none.op),some (P0 b),some (.pointer (some ⟨b,3,none⟩)),some (.pointer (some ⟨b,3+n,none⟩)),none,some (P0 b),some (.pointer (some ⟨b,11,none⟩)),some (.pointer (some ⟨b,11+n,none⟩)),none] rfl (by kernel_rfl) (fun l vs W=>(SD2 [b] w (fun d1 d2=> [(b,108,Lo.C { s.none with ho:=cond d1 (upd s.none.ho n true) s.none.ho,ops:=cond d2 (upd s.none.ops n (s.none.op)) s.none.ops } ln)]) 11 15) (fun i=>l.getD i false) vs W) ((unhide M).drew) ?_ ?_)
 · intro ix o' hi ho a' w2 l vs hls hlf hJ hout hin hdep hnot
   match ix,ho with
   | 0,ho=>
     cases ho
     have e0:=ho9 hout 0
     replace e0:a'.eval (.tmp 0)=_:=e0.trans rfl
     exact wp_move (.tmp 0) rfl _ e0 ⟨_,rfl,told_of rfl,keepG [11,15] SD2.loc (by omega) (by decide) hJ⟩
   | 1,ho=>
     cases ho
     have e0:=ho9 hout 1
     replace e0:a'.eval (.tmp 1)=_:=e0.trans rfl
     exact wp_move (.tmp 1) rfl _ e0 ⟨_,rfl,told_of rfl,keepG [11,15] SD2.loc (by omega) (by decide) hJ⟩
   | 2,ho=>
     cases ho
     have e0:=ho9 hout 0
     replace e0:a'.eval (.tmp 0)=_:=e0.trans rfl
     exact wp_move (.tmp 0) rfl _ e0 ⟨_,rfl,told_of rfl,keepG [11,15] SD2.loc (by omega) (by decide) hJ⟩
   | 3,ho=>
     cases ho
     have e0:=ho9 hout 1
     replace e0:a'.eval (.tmp 1)=_:=e0.trans rfl
     exact wp_move (.tmp 1) rfl _ e0 ⟨_,rfl,told_of rfl,keepG [11,15] SD2.loc (by omega) (by decide) hJ⟩
   | 4,ho=>
     cases ho
     have e0:=ho9 hout 0
     replace e0:a'.eval (.tmp 0)=_:=e0.trans rfl
     exact wp_move (.tmp 0) rfl _ e0 ⟨_,rfl,told_of rfl,keepG [11,15] SD2.loc (by omega) (by decide) hJ⟩
   | 5,ho=>
     cases ho
     exact o_nil (.tmp 40) rfl _ (hx9 (hi9 hin 4 40) rfl) ⟨_,rfl,told_of rfl,keepG [11,15] SD2.loc (by omega) (by decide) hJ⟩
   | 6,ho=>
     cases ho
     exact o_fld75_8 (.tmp 41) rfl b (0) (30) rfl (hx9 (hi9 hin 5 41) rfl) ⟨_,rfl,told_of rfl,keepG [11,15] SD2.loc (by omega) (by decide) hJ⟩
   | 7,ho=>
     cases ho
     exact o_load2 (.tmp 42) rfl _ _ (hx9 (hi9 hin 6 42) rfl) (fits_cell (Mm.at hJ 0 _ rfl) 30 _ rfl) ⟨_,rfl,told_of rfl,keepG [11,15] SD2.loc (by omega) (by decide) hJ⟩
   | 8,ho=>
     cases ho
     exact o_nil (.tmp 36) rfl _ (hx9 (hi9 hin 0 36) rfl) ⟨_,rfl,told_of rfl,keepG [11,15] SD2.loc (by omega) (by decide) hJ⟩
   | 9,ho=>
     cases ho
     exact o_fld75_3 (.tmp 44) rfl b (0) (3) rfl (hx9 (hi9 hin 8 44) rfl) ⟨_,rfl,told_of rfl,keepG [11,15] SD2.loc (by omega) (by decide) hJ⟩
   | 10,ho=>
     cases ho
     exact o_idx73 (.tmp 45) (.tmp 37) rfl b (3) n (3+n) (hn) rfl (hx9 (hi9 hin 9 45) rfl) (hx9 (hi9 hin 1 37) rfl) ⟨_,rfl,told_of rfl,keepG [11,15] SD2.loc (by omega) (by decide) hJ⟩
   | 11,ho=>
     cases ho
     exact o_st1 size4 (.tmp 46) _ rfl rfl b (3+n) 0 (.bool true) ⟨rfl,rfl⟩ (hx9 (hi9 hin 10 46) rfl) rfl (SD2.no hJ hlf) rfl (by show 3+n<40;omega) (Lo.ho_set _ ln n hn true) (fun W hM=>⟨undef,rfl,told_no rfl,nextG (by omega) hM⟩)
   | 12,ho=>
     cases ho
     exact o_nil (.tmp 38) rfl _ (hx9 (hi9 hin 2 38) rfl) ⟨_,rfl,told_of rfl,keepG [11,15] SD2.loc (by omega) (by decide) hJ⟩
   | 13,ho=>
     cases ho
     exact o_fld75_4 (.tmp 47) rfl b (0) (11) rfl (hx9 (hi9 hin 12 47) rfl) ⟨_,rfl,told_of rfl,keepG [11,15] SD2.loc (by omega) (by decide) hJ⟩
   | 14,ho=>
     cases ho
     exact o_idx37 (.tmp 48) (.tmp 39) rfl b (11) n (11+n) (hn) rfl (hx9 (hi9 hin 13 48) rfl) (hx9 (hi9 hin 3 39) rfl) ⟨_,rfl,told_of rfl,keepG [11,15] SD2.loc (by omega) (by decide) hJ⟩
   | 15,ho=>
     cases ho
     exact o_st1 size2 (.tmp 49) (.tmp 43) rfl rfl b (11+n) 0 (.int .i64 (s.none.op)) ⟨rfl,rfl⟩ (hx9 (hi9 hin 14 49) rfl) (hx9 (hi9 hin 7 43) rfl) (SD2.no2 hJ hlf) rfl (by show 11+n<40;omega) (Lo.ops_set _ ln n hn (s.none.op)) (fun W hM=>⟨undef,rfl,told_no rfl,nextG (by omega) hM⟩)
 intro l_ vs4 V4 hl hJ htold
 have t0:vs4 0=P0 b:=told_is _ (htold 0 (by decide)) rfl
 have t1:vs4 1= .int .i64 n:=told_is _ (htold 1 (by decide)) rfl
 have t2:vs4 2=P0 b:=told_is _ (htold 2 (by decide)) rfl
 have t3:vs4 3= .int .i64 n:=told_is _ (htold 3 (by decide)) rfl
 have t4:vs4 4=P0 b:=told_is _ (htold 4 (by decide)) rfl
 have t5:vs4 5=P0 b:=told_is _ (htold 5 (by decide)) rfl
 have t6:vs4 6= .pointer (some ⟨b,30,none⟩):=told_is _ (htold 6 (by decide)) rfl
 have t7:vs4 7= .int .i64 s.none.op:=told_is _ (htold 7 (by decide)) rfl
 have t8:vs4 8=P0 b:=told_is _ (htold 8 (by decide)) rfl
 have t9:vs4 9= .pointer (some ⟨b,3,none⟩):=told_is _ (htold 9 (by decide)) rfl
 have t10:vs4 10= .pointer (some ⟨b,3+n,none⟩):=told_is _ (htold 10 (by decide)) rfl
 have t12:vs4 12=P0 b:=told_is _ (htold 12 (by decide)) rfl
 have t13:vs4 13= .pointer (some ⟨b,11,none⟩):=told_is _ (htold 13 (by decide)) rfl
 have t14:vs4 14= .pointer (some ⟨b,11+n,none⟩):=told_is _ (htold 14 (by decide)) rfl
 rw [show (List.range 16).map vs4= [vs4 0,vs4 1,vs4 2,vs4 3,vs4 4,vs4 5,vs4 6,vs4 7,vs4 8,vs4 9,vs4 10,vs4 11,vs4 12,vs4 13,vs4 14,vs4 15] from rfl]
 simp only [t0,t1,t2,t3,t4,t5,t6,t7,t8,t9,t10,t12,t13,t14,putAll,Act.put,List.setIfInBounds_toArray,List.set_cons_succ,List.set_cons_zero]
 clear t0 t1 t2 t3 t4 t5 t6 t7 t8 t9 t10 t12 t13 t14 htold
 have hM4:Mm [b] w V4 ([(b,108,(s.none.put n).C ln)]):=SD2.yes hJ (hl 11 (by decide)) (hl 15 (by decide))
 replace M:Hid (Mm [b] w V4 [(b,108,(s.none.put n).C ln)]):=hide hM4
 clear hM4 hJ hl
 go_wp2_with (first |(refine wpSt1 size3 rfl (.tmp 55) (.tmp 52) rfl rfl b (1) 0 (.int .i64 n) (⟨rfl,rfl⟩) rfl rfl (unhide M) rfl (show 1+1≤_ from Nat.le_of_ble_eq_true rfl) (rfl) ?_;intro W21 N21;replace M:Hid (Mm [b] w W21 [(b,108,({ s.none.put n with ex:=n } :Lo).C ln)]):=hide N21;clear N21;refine Stp.go ?_))
 constructor
 go_wp2_with (first |(refine wpSt1 size3 rfl (.tmp 57) (.tmp 53) rfl rfl b (2) 0 (.int .i64 n) (⟨rfl,rfl⟩) rfl rfl (unhide M) rfl (show 2+1≤_ from Nat.le_of_ble_eq_true rfl) (rfl) ?_;intro W22 N22;replace M:Hid (Mm [b] w W22 [(b,108,((s.none.put n).own n).C ln)]):=hide N22;clear N22;refine Stp.go ?_))
 constructor
 go_wp2_with fail
 go_end0
 exact⟨rfl,(unhide M).at 0 _ rfl,(unhide M).kept⟩
theorem nowEx_c (s:Lo) (ln:Value) (b n:Nat) (w:World) (h:Blk w b 108 (s.C ln)) (hn:n<8) (m:Nat) (hm:m<8) (h1:s.su=(m:Int)) (h2:s.ow=(m:Int)):Calls Try.prog 81 #[P0 b,.int .i64 n] w (LV b ln w (((s.setPa m true).none.put n).own n)):=by
 have M:=hide (Mm.one h)
 have hnI:(n:Int)<8:=by omega
 have h0:decide ((m:Int)= -1)=false:=by rw [decide_eq_false_iff_not];omega
 clear h
 go_enter Try.func81,Try.ntmps81
 go_wp2_with fail
 refine wp_region_any mixed (wpAny_tq 16 rfl (by kernel_rfl) [some (P0 b),some (P0 b),some (.pointer (some ⟨b,31,none⟩)),some (.int .i64 m),some (.bool true),some (.bool true),some (P0 b),some (P0 b),some (.pointer (some ⟨b,31,none⟩)),some (.int .i64 m),some (P0 b),some (P0 b),some (.pointer (some ⟨b,2,none⟩)),some (.int .i64 m),some (.bool true),some (.bool true)] rfl (by kernel_rfl) (by kernel_rfl) ?_ ?_)
 · intro i o' hi hsk ho a' w2 hout hin hk2
   replace hk2:Kept [] w w2:=ud hk2
   match i,ho,hsk with
   | 0,ho,hsk=>
     cases ho
     exact wp_move (.tmp 0) rfl _ ((ho9 hout 0).trans rfl) (tE rfl)
   | 1,ho,hsk=>
     cases ho
     exact o_nil (.tmp 4) rfl _ (is_tq (hi9 hin 0 4) rfl) (tE rfl)
   | 2,ho,hsk=>
     cases ho
     exact o_fld75_9 (.tmp 5) rfl b (0) (31) rfl (is_tq (hi9 hin 1 5) rfl) (tE rfl)
   | 3,ho,hsk=>
     cases ho
     exact o_load3 (.tmp 6) rfl _ _ (is_tq (hi9 hin 2 6) rfl) (by have h9:=fits_cell (((unhide M).step hk2).at 0 _ rfl) 31 _ rfl;rw [h1] at h9;exact h9) (tE rfl)
   | 4,ho,hsk=>
     cases ho
     exact c_neq3 (.tmp 7) (.const (.int .i64 (-1))) rfl _ _ (false) (h0) (is_tq (hi9 hin 3 7) rfl) rfl (tE rfl)
   | 5,ho,hsk=>
     cases ho
     exact wp_move (.tmp 8) rfl _ (is_tq (hi9 hin 4 8) rfl) (tE rfl)
   | 6,ho,hsk=>
     cases ho
     exact wp_move (.tmp 0) rfl _ ((ho9 hout 0).trans rfl) (tE rfl)
   | 7,ho,hsk=>
     cases ho
     exact o_nil (.tmp 10) rfl _ (is_tq (hi9 hin 6 10) rfl) (tE rfl)
   | 8,ho,hsk=>
     cases ho
     exact o_fld75_9 (.tmp 11) rfl b (0) (31) rfl (is_tq (hi9 hin 7 11) rfl) (tE rfl)
   | 9,ho,hsk=>
     cases ho
     exact o_load3 (.tmp 12) rfl _ _ (is_tq (hi9 hin 8 12) rfl) (by have h9:=fits_cell (((unhide M).step hk2).at 0 _ rfl) 31 _ rfl;rw [h1] at h9;exact h9) (tE rfl)
   | 10,ho,hsk=>
     cases ho
     exact wp_move (.tmp 0) rfl _ ((ho9 hout 0).trans rfl) (tE rfl)
   | 11,ho,hsk=>
     cases ho
     exact o_nil (.tmp 14) rfl _ (is_tq (hi9 hin 10 14) rfl) (tE rfl)
   | 12,ho,hsk=>
     cases ho
     exact o_fld75_2 (.tmp 15) rfl b (0) (2) rfl (is_tq (hi9 hin 11 15) rfl) (tE rfl)
   | 13,ho,hsk=>
     cases ho
     exact o_load3 (.tmp 16) rfl _ _ (is_tq (hi9 hin 12 16) rfl) (by have h9:=fits_cell (((unhide M).step hk2).at 0 _ rfl) 2 _ rfl;rw [h2] at h9;exact h9) (tE rfl)
   | 14,ho,hsk=>
     cases ho
     exact c_eql3 (.tmp 13) (.tmp 17) rfl _ _ (true) (by simp) (is_tq (hi9 hin 9 13) rfl) (is_tq (hi9 hin 13 17) rfl) (tE rfl)
   | 15,ho,hsk=>
     cases ho
     exact o_pick (.tmp 9) (.tmp 18) rfl _ (is_tq (hi9 hin 5 9) rfl) (is_tq (hi9 hin 14 18) rfl) (tE rfl)
 intro w9 hk9
 replace hk9:Kept [] w w9:=ud hk9
 simp only [valsQ,List.map_cons,List.map_nil,Option.getD_some,List.take_succ_cons,List.take_zero,putAll,Act.put,List.setIfInBounds_toArray,List.set_cons_succ,List.set_cons_zero]
 refine wpAny_done (by kernel_rfl) ?_ _
 replace M:=hide ((unhide M).step hk9)
 clear hk9
 go_wp2_with fail
 refine wp_region_any mixed (wpAny_gx 9 rfl (by kernel_rfl) [some (P0 b),some (P0 b),some (P0 b),some (.pointer (some ⟨b,31,none⟩)),some (.int .i64 m),some (P0 b),some (.pointer (some ⟨b,19,none⟩)),some (.pointer (some ⟨b,19+m,none⟩)),none] rfl (by kernel_rfl) (fun l vs W=>(SD1 [b] w (fun d=> [(b,108,Lo.C { s with pa:=cond d (upd s.pa m true) s.pa } ln)]) 8) (fun i=>l.getD i false) vs W) ((unhide M).drew) ?_ ?_)
 · intro ix o' hi ho a' w2 l vs hls hlf hJ hout hin hdep hnot
   match ix,ho with
   | 0,ho=>
     cases ho
     have e0:=ho9 hout 0
     replace e0:a'.eval (.tmp 0)=_:=e0.trans rfl
     exact wp_move (.tmp 0) rfl _ e0 ⟨_,rfl,told_of rfl,keepG [8] SD1.loc (by omega) (by decide) hJ⟩
   | 1,ho=>
     cases ho
     have e0:=ho9 hout 0
     replace e0:a'.eval (.tmp 0)=_:=e0.trans rfl
     exact wp_move (.tmp 0) rfl _ e0 ⟨_,rfl,told_of rfl,keepG [8] SD1.loc (by omega) (by decide) hJ⟩
   | 2,ho=>
     cases ho
     exact o_nil (.tmp 21) rfl _ (hx9 (hi9 hin 1 21) rfl) ⟨_,rfl,told_of rfl,keepG [8] SD1.loc (by omega) (by decide) hJ⟩
   | 3,ho=>
     cases ho
     exact o_fld75_9 (.tmp 22) rfl b (0) (31) rfl (hx9 (hi9 hin 2 22) rfl) ⟨_,rfl,told_of rfl,keepG [8] SD1.loc (by omega) (by decide) hJ⟩
   | 4,ho=>
     cases ho
     exact o_load3 (.tmp 23) rfl _ _ (hx9 (hi9 hin 3 23) rfl) (by have h9:=fits_cell (Mm.at hJ 0 _ rfl) 31 _ rfl;rw [h1] at h9;exact h9) ⟨_,rfl,told_of rfl,keepG [8] SD1.loc (by omega) (by decide) hJ⟩
   | 5,ho=>
     cases ho
     exact o_nil (.tmp 20) rfl _ (hx9 (hi9 hin 0 20) rfl) ⟨_,rfl,told_of rfl,keepG [8] SD1.loc (by omega) (by decide) hJ⟩
   | 6,ho=>
     cases ho
     exact o_fld75_5 (.tmp 25) rfl b (0) (19) rfl (hx9 (hi9 hin 5 25) rfl) ⟨_,rfl,told_of rfl,keepG [8] SD1.loc (by omega) (by decide) hJ⟩
   | 7,ho=>
     cases ho
     exact o_idx73 (.tmp 26) (.tmp 24) rfl b (19) m (19+m) (hm) rfl (hx9 (hi9 hin 6 26) rfl) (hx9 (hi9 hin 4 24) rfl) ⟨_,rfl,told_of rfl,keepG [8] SD1.loc (by omega) (by decide) hJ⟩
   | 8,ho=>
     cases ho
     exact o_st1 size4 (.tmp 27) _ rfl rfl b (19+m) 0 (.bool true) ⟨rfl,rfl⟩ (hx9 (hi9 hin 7 27) rfl) rfl (SD1.no hJ hlf) rfl (by show 19+m<40;omega) (Lo.pa_set _ ln m hm true) (fun W hM=>⟨undef,rfl,told_no rfl,nextG (by omega) hM⟩)
 intro l_ vs4 V3 hl hJ htold
 have t0:vs4 0=P0 b:=told_is _ (htold 0 (by decide)) rfl
 have t1:vs4 1=P0 b:=told_is _ (htold 1 (by decide)) rfl
 have t2:vs4 2=P0 b:=told_is _ (htold 2 (by decide)) rfl
 have t3:vs4 3= .pointer (some ⟨b,31,none⟩):=told_is _ (htold 3 (by decide)) rfl
 have t4:vs4 4= .int .i64 m:=told_is _ (htold 4 (by decide)) rfl
 have t5:vs4 5=P0 b:=told_is _ (htold 5 (by decide)) rfl
 have t6:vs4 6= .pointer (some ⟨b,19,none⟩):=told_is _ (htold 6 (by decide)) rfl
 have t7:vs4 7= .pointer (some ⟨b,19+m,none⟩):=told_is _ (htold 7 (by decide)) rfl
 rw [show (List.range 9).map vs4= [vs4 0,vs4 1,vs4 2,vs4 3,vs4 4,vs4 5,vs4 6,vs4 7,vs4 8] from rfl]
 simp only [t0,t1,t2,t3,t4,t5,t6,t7,putAll,Act.put,List.setIfInBounds_toArray,List.set_cons_succ,List.set_cons_zero]
 clear t0 t1 t2 t3 t4 t5 t6 t7 htold
 have hM4:Mm [b] w V3 ([(b,108,(s.setPa m true).C ln)]):=SD1.yes hJ (hl 8 (by decide))
 replace M:Hid (Mm [b] w V3 [(b,108,(s.setPa m true).C ln)]):=hide hM4
 clear hM4 hJ hl
 go_wp2_with (first |(refine wpBuildZ (T:=106) (b8 no8) build73 rfl rfl ?_;refine Stp.go ?_))
 constructor
 go_wp2_with (first |(refine wpBuildZ (T:=34) (i8 ze8) build37 rfl rfl ?_;refine Stp.go ?_))
 constructor
 go_wp2_with (first |(refine wpStN row73 rfl (.tmp 33) (.tmp 30) rfl rfl b (3) 0 (b8 no8) rfl rfl rfl (b8_one _) (unhide M) rfl (Nat.le_of_ble_eq_true rfl) (fun W h=>h.hoP no8) ?_;intro W11 N11;replace M:Hid (Mm [b] w W11 [(b,108,({ (s.setPa m true) with ho:=no8 } :Lo).C ln)]):=hide N11;clear N11;refine Stp.go ?_))
 constructor
 go_wp2_with (first |(refine wpStN row37 rfl (.tmp 35) (.tmp 31) rfl rfl b (11) 0 (i8 ze8) rfl rfl rfl (i8_one _) (unhide M) rfl (Nat.le_of_ble_eq_true rfl) (fun W h=>h.opsP ze8) ?_;intro W12 N12;replace M:Hid (Mm [b] w W12 [(b,108,(s.setPa m true).none.C ln)]):=hide N12;clear N12;refine Stp.go ?_))
 constructor
 go_wp2_with fail
 refine wp_region_any mixed (wpAny_gx 16 rfl (by kernel_rfl) [some (P0 b),some (.int .i64 n),some (P0 b),some (.int .i64 n),some (P0 b),some (P0 b),some (.pointer (some ⟨b,30,none⟩)),some (.int .i64 ((s.setPa m true).none.op)),some (P0 b),some (.pointer (some ⟨b,3,none⟩)),some (.pointer (some ⟨b,3+n,none⟩)),none,some (P0 b),some (.pointer (some ⟨b,11,none⟩)),some (.pointer (some ⟨b,11+n,none⟩)),none] rfl (by kernel_rfl) (fun l vs W=>(SD2 [b] w (fun d1 d2=> [(b,108,Lo.C { (s.setPa m true).none with ho:=cond d1 (upd (s.setPa m true).none.ho n true) (s.setPa m true).none.ho,ops:=cond d2 (upd (s.setPa m true).none.ops n ((s.setPa m true).none.op)) (s.setPa m true).none.ops } ln)]) 11 15) (fun i=>l.getD i false) vs W) ((unhide M).drew) ?_ ?_)
 · intro ix o' hi ho a' w2 l vs hls hlf hJ hout hin hdep hnot
   match ix,ho with
   | 0,ho=>
     cases ho
     have e0:=ho9 hout 0
     replace e0:a'.eval (.tmp 0)=_:=e0.trans rfl
     exact wp_move (.tmp 0) rfl _ e0 ⟨_,rfl,told_of rfl,keepG [11,15] SD2.loc (by omega) (by decide) hJ⟩
   | 1,ho=>
     cases ho
     have e0:=ho9 hout 1
     replace e0:a'.eval (.tmp 1)=_:=e0.trans rfl
     exact wp_move (.tmp 1) rfl _ e0 ⟨_,rfl,told_of rfl,keepG [11,15] SD2.loc (by omega) (by decide) hJ⟩
   | 2,ho=>
     cases ho
     have e0:=ho9 hout 0
     replace e0:a'.eval (.tmp 0)=_:=e0.trans rfl
     exact wp_move (.tmp 0) rfl _ e0 ⟨_,rfl,told_of rfl,keepG [11,15] SD2.loc (by omega) (by decide) hJ⟩
   | 3,ho=>
     cases ho
     have e0:=ho9 hout 1
     replace e0:a'.eval (.tmp 1)=_:=e0.trans rfl
     exact wp_move (.tmp 1) rfl _ e0 ⟨_,rfl,told_of rfl,keepG [11,15] SD2.loc (by omega) (by decide) hJ⟩
   | 4,ho=>
     cases ho
     have e0:=ho9 hout 0
     replace e0:a'.eval (.tmp 0)=_:=e0.trans rfl
     exact wp_move (.tmp 0) rfl _ e0 ⟨_,rfl,told_of rfl,keepG [11,15] SD2.loc (by omega) (by decide) hJ⟩
   | 5,ho=>
     cases ho
     exact o_nil (.tmp 40) rfl _ (hx9 (hi9 hin 4 40) rfl) ⟨_,rfl,told_of rfl,keepG [11,15] SD2.loc (by omega) (by decide) hJ⟩
   | 6,ho=>
     cases ho
     exact o_fld75_8 (.tmp 41) rfl b (0) (30) rfl (hx9 (hi9 hin 5 41) rfl) ⟨_,rfl,told_of rfl,keepG [11,15] SD2.loc (by omega) (by decide) hJ⟩
   | 7,ho=>
     cases ho
     exact o_load2 (.tmp 42) rfl _ _ (hx9 (hi9 hin 6 42) rfl) (fits_cell (Mm.at hJ 0 _ rfl) 30 _ rfl) ⟨_,rfl,told_of rfl,keepG [11,15] SD2.loc (by omega) (by decide) hJ⟩
   | 8,ho=>
     cases ho
     exact o_nil (.tmp 36) rfl _ (hx9 (hi9 hin 0 36) rfl) ⟨_,rfl,told_of rfl,keepG [11,15] SD2.loc (by omega) (by decide) hJ⟩
   | 9,ho=>
     cases ho
     exact o_fld75_3 (.tmp 44) rfl b (0) (3) rfl (hx9 (hi9 hin 8 44) rfl) ⟨_,rfl,told_of rfl,keepG [11,15] SD2.loc (by omega) (by decide) hJ⟩
   | 10,ho=>
     cases ho
     exact o_idx73 (.tmp 45) (.tmp 37) rfl b (3) n (3+n) (hn) rfl (hx9 (hi9 hin 9 45) rfl) (hx9 (hi9 hin 1 37) rfl) ⟨_,rfl,told_of rfl,keepG [11,15] SD2.loc (by omega) (by decide) hJ⟩
   | 11,ho=>
     cases ho
     exact o_st1 size4 (.tmp 46) _ rfl rfl b (3+n) 0 (.bool true) ⟨rfl,rfl⟩ (hx9 (hi9 hin 10 46) rfl) rfl (SD2.no hJ hlf) rfl (by show 3+n<40;omega) (Lo.ho_set _ ln n hn true) (fun W hM=>⟨undef,rfl,told_no rfl,nextG (by omega) hM⟩)
   | 12,ho=>
     cases ho
     exact o_nil (.tmp 38) rfl _ (hx9 (hi9 hin 2 38) rfl) ⟨_,rfl,told_of rfl,keepG [11,15] SD2.loc (by omega) (by decide) hJ⟩
   | 13,ho=>
     cases ho
     exact o_fld75_4 (.tmp 47) rfl b (0) (11) rfl (hx9 (hi9 hin 12 47) rfl) ⟨_,rfl,told_of rfl,keepG [11,15] SD2.loc (by omega) (by decide) hJ⟩
   | 14,ho=>
     cases ho
     exact o_idx37 (.tmp 48) (.tmp 39) rfl b (11) n (11+n) (hn) rfl (hx9 (hi9 hin 13 48) rfl) (hx9 (hi9 hin 3 39) rfl) ⟨_,rfl,told_of rfl,keepG [11,15] SD2.loc (by omega) (by decide) hJ⟩
   | 15,ho=>
     cases ho
     exact o_st1 size2 (.tmp 49) (.tmp 43) rfl rfl b (11+n) 0 (.int .i64 ((s.setPa m true).none.op)) ⟨rfl,rfl⟩ (hx9 (hi9 hin 14 49) rfl) (hx9 (hi9 hin 7 43) rfl) (SD2.no2 hJ hlf) rfl (by show 11+n<40;omega) (Lo.ops_set _ ln n hn ((s.setPa m true).none.op)) (fun W hM=>⟨undef,rfl,told_no rfl,nextG (by omega) hM⟩)
 intro l_ vs4 V4 hl hJ htold
 have t0:vs4 0=P0 b:=told_is _ (htold 0 (by decide)) rfl
 have t1:vs4 1= .int .i64 n:=told_is _ (htold 1 (by decide)) rfl
 have t2:vs4 2=P0 b:=told_is _ (htold 2 (by decide)) rfl
 have t3:vs4 3= .int .i64 n:=told_is _ (htold 3 (by decide)) rfl
 have t4:vs4 4=P0 b:=told_is _ (htold 4 (by decide)) rfl
 have t5:vs4 5=P0 b:=told_is _ (htold 5 (by decide)) rfl
 have t6:vs4 6= .pointer (some ⟨b,30,none⟩):=told_is _ (htold 6 (by decide)) rfl
 have t7:vs4 7= .int .i64 ((s.setPa m true).none.op):=told_is _ (htold 7 (by decide)) rfl
 have t8:vs4 8=P0 b:=told_is _ (htold 8 (by decide)) rfl
 have t9:vs4 9= .pointer (some ⟨b,3,none⟩):=told_is _ (htold 9 (by decide)) rfl
 have t10:vs4 10= .pointer (some ⟨b,3+n,none⟩):=told_is _ (htold 10 (by decide)) rfl
 have t12:vs4 12=P0 b:=told_is _ (htold 12 (by decide)) rfl
 have t13:vs4 13= .pointer (some ⟨b,11,none⟩):=told_is _ (htold 13 (by decide)) rfl
 have t14:vs4 14= .pointer (some ⟨b,11+n,none⟩):=told_is _ (htold 14 (by decide)) rfl
 rw [show (List.range 16).map vs4= [vs4 0,vs4 1,vs4 2,vs4 3,vs4 4,vs4 5,vs4 6,vs4 7,vs4 8,vs4 9,vs4 10,vs4 11,vs4 12,vs4 13,vs4 14,vs4 15] from rfl]
 simp only [t0,t1,t2,t3,t4,t5,t6,t7,t8,t9,t10,t12,t13,t14,putAll,Act.put,List.setIfInBounds_toArray,List.set_cons_succ,List.set_cons_zero]
 clear t0 t1 t2 t3 t4 t5 t6 t7 t8 t9 t10 t12 t13 t14 htold
 have hM4:Mm [b] w V4 ([(b,108,((s.setPa m true).none.put n).C ln)]):=SD2.yes hJ (hl 11 (by decide)) (hl 15 (by decide))
 replace M:Hid (Mm [b] w V4 [(b,108,((s.setPa m true).none.put n).C ln)]):=hide hM4
 clear hM4 hJ hl
 go_wp2_with (first |(refine wpSt1 size3 rfl (.tmp 55) (.tmp 52) rfl rfl b (1) 0 (.int .i64 n) (⟨rfl,rfl⟩) rfl rfl (unhide M) rfl (show 1+1≤_ from Nat.le_of_ble_eq_true rfl) (rfl) ?_;intro W21 N21;replace M:Hid (Mm [b] w W21 [(b,108,({ (s.setPa m true).none.put n with ex:=n } :Lo).C ln)]):=hide N21;clear N21;refine Stp.go ?_))
 constructor
 go_wp2_with (first |(refine wpSt1 size3 rfl (.tmp 57) (.tmp 53) rfl rfl b (2) 0 (.int .i64 n) (⟨rfl,rfl⟩) rfl rfl (unhide M) rfl (show 2+1≤_ from Nat.le_of_ble_eq_true rfl) (rfl) ?_;intro W22 N22;replace M:Hid (Mm [b] w W22 [(b,108,(((s.setPa m true).none.put n).own n).C ln)]):=hide N22;clear N22;refine Stp.go ?_))
 constructor
 go_wp2_with fail
 go_end0
 exact⟨rfl,(unhide M).at 0 _ rfl,(unhide M).kept⟩
theorem nowEx59 (s:Lo) (ln:Value) (b n:Nat) (w:World) (h:Blk w b 108 (s.C ln)) (hn:n<8) (hs:s.Ok):Calls Try.prog 81 #[P0 b,.int .i64 n] w (LV b ln w (s.nowEx n)):=by
 have hu:=hs.su
 unfold Lo.nowEx
 by_cases h1:s.su= -1
 · rw [if_neg (by simp [h1])];exact nowEx_a s ln b n w h hn h1
 · have e:s.su=(s.su.toNat:Int):=by omega
   by_cases h2:s.su=s.ow
   · rw [if_pos ⟨h1,h2⟩];exact nowEx_c s ln b n w h hn _ (by omega) e (by omega)
   · rw [if_neg (by simp [h2])];exact nowEx_b s ln b n w h hn s.su.toNat (by omega) e (by omega)
end Go.Proofs.Ytbigongmlpoahaa
