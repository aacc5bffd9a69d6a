import Derived.Test.YtbigongmlpoahaaUFq
namespace Go.Proofs.Ytbigongmlpoahaa
set_option maxHeartbeats 2000000
set_option maxRecDepth 100000
set_option linter.unusedSimpArgs false
open Go.RowKit
theorem wpAny_tq1 {ops:Array Oper} {Q:Exit→Act→World→Prop} {a0:Act} {w0:World} (n:Nat) (hn:ops.size=n+1) (hok:prefG ops n=true) (us:List (Option Value)) (hu:us.length=n+1) (hg:guardsQ ops us=true)
   (hsl:ops.all (fun o=>match o.dst with | none=>true | some t=>decide (t<a0.tmps.size))=true)
   (hop:∀(j:Nat) (o:Oper),j<n→skipQ us j=false→ops[j]?=some o→∀a w,(∀t:Nat,(ops.toList.take n).all (fun p=>p.dst !=some t)=true→a.eval (.tmp t)=a0.eval (.tmp t))→
     (∀(i t:Nat),o.after.any (fun e=>Region.binds .any e&&e.on == i)=true→ops[i]?.bind (·.dst)=some t→tq us i (a.eval (.tmp t)) w)→Kept [] w0 w→
     o.wp Try.prog a w (fun a' w'=>∃v,a'=a.put o.dst v∧tq us j v w'∧Kept [] w w'∧∀i u,i<n→i≠j→tq us i u w→True) Q)
   (hQ:∀w,Kept [] w0 w→wpAny Try.prog .any ops Q 1 (lists n (n+1)) (putAll a0 (ops.toList.take n) (valsQ (us.take n))) w):
   wpAny Try.prog .any ops Q ops.size (Array.replicate ops.size false) a0 w0:=by
 refine wpAny_prefS n 1 (by omega) hok (tq us) (fun _ _ _ _=>True) (skipQ us) (fun j o i b _ ho hg'=>guardsQ_some hg j o i b ho hg') (fun j o _ ho hg'=>guardsQ_none hg j o ho hg') (fun j w h=>skipQ_undef w h) (fun _ _ _ _=>trivial) (tq_kept us) hsl hop ?_
 intro vs w hlen hv _ hk
 have h2:∀(j:Nat) v,vs[j]?=some v→tq (us.take n) j v w:=by
   intro j v hj
   have h3:=hv j v hj
   have hjn:j<n:=by have:=(List.getElem?_eq_some_iff.1 hj).1;omega
   unfold tq at h3⊢
   rw [List.getElem?_take_of_lt hjn]
   exact h3
 obtain rfl:=vs_tq h2 (by rw [hlen,List.length_take];omega)
 exact hQ w hk
def Rk.sup (r:Rk):Int:=if 0≤r.x then r.x else if 0≤r.ow∧r.ow≠(r.hn:Int)∧r.sh r.ow.toNat=true then r.ow else if r.sh r.hn=true then -1 else low r.sh
def Rk.find (r:Rk):Rk:= { r with su:=r.sup }
def Rk.su1 (r:Rk) (x:Int):Rk:= { r with su:=x }
structure Rk.Ok (r:Rk):Prop where
 x: -1≤r.x∧r.x<8
 ow: -1≤r.ow∧r.ow<8
 su: -1≤r.su∧r.su<8
 hn:r.hn<8
@[reducible] def RV (b:Nat) (ln:Value) (w:World) (s:Rk) (e:Ending) (w':World):Prop:=e= .returned (.tuple #[])∧Blk w' b 80 (s.C ln)∧Kept [b] w w'
@[reducible] def RR (b:Nat) (ln:Value) (w:World) (r:Rk×List Od) (e:Ending) (w':World):Prop:=∃v,e= .returned v∧Ou w w' v r.2∧Blk w' b 80 (r.1.C ln)∧Kept [b] w w'
theorem supply_a (r:Rk) (ln:Value) (b:Nat) (w:World) (h:Blk w b 80 (r.C ln)) (hh:r.hn<8) (m:Nat) (_hm:m<8) (h1:r.x=(m:Int)):Calls Try.prog 90 #[P0 b] w (RV b ln w (r.su1 m)):=by
 have M:=hide (Mm.one h)
 have hhI:(r.hn:Int)<8:=by omega
 have c27:=fits_cell h 27 _ rfl
 clear h
 have H1:=hide h1
 clear h1
 go_enter Try.func90,Try.ntmps90
 go_wp2_with (first |(refine wpSt1 size3 rfl (.tmp 11) (.const (.int .i64 (-1))) rfl rfl b (38) 0 (.int .i64 (-1)) (⟨rfl,rfl⟩) rfl rfl (unhide M) rfl (show 38+1≤_ from Nat.le_of_ble_eq_true rfl) (rfl) ?_;intro W1 N1;replace M:Hid (Mm [b] w W1 [(b,80,(r.su1 (-1)).C ln)]):=hide N1;clear N1;clear c27;have c0:W1.cell? ⟨b,0,none⟩=some (.int .i64 (m:Int)):=(by rw [← unhide H1];exact fits_cell ((unhide M).at 0 _ rfl) 0 _ rfl);refine Stp.go ?_))
 constructor
 go_wp2_with (first |(refine wpSt1 size3 rfl (.tmp 23) (.tmp 21) rfl rfl b (38) 0 (.int .i64 (m:Int)) (⟨rfl,rfl⟩) rfl rfl (unhide M) rfl (show 38+1≤_ from Nat.le_of_ble_eq_true rfl) (rfl) ?_;intro W2 N2;replace M:Hid (Mm [b] w W2 [(b,80,(r.su1 m).C ln)]):=hide N2;clear N2;clear c0;refine Stp.go ?_))
 constructor
 go_wp2_with fail
 go_end0
 exact⟨rfl,(unhide M).at 0 _ rfl,(unhide M).kept⟩
theorem supply_b (r:Rk) (ln:Value) (b:Nat) (w:World) (h:Blk w b 80 (r.C ln)) (hh:r.hn<8) (h1:r.x<0) (m:Nat) (hm:m<8) (h2:r.ow=(m:Int)) (h3:¬(m:Int)=(r.hn:Int)) (h4:r.sh m=true):Calls Try.prog 90 #[P0 b] w (RV b ln w (r.su1 m)):=by
 have M:=hide (Mm.one h)
 have hhI:(r.hn:Int)<8:=by omega
 have c27:=fits_cell h 27 _ rfl
 clear h
 have h1d:decide (r.x≥0)=false:=by simpa using h1
 go_enter Try.func90,Try.ntmps90
 go_wp2_with (first |(refine wpSt1 size3 rfl (.tmp 11) (.const (.int .i64 (-1))) rfl rfl b (38) 0 (.int .i64 (-1)) (⟨rfl,rfl⟩) rfl rfl (unhide M) rfl (show 38+1≤_ from Nat.le_of_ble_eq_true rfl) (rfl) ?_;intro W1 N1;replace M:Hid (Mm [b] w W1 [(b,80,(r.su1 (-1)).C ln)]):=hide N1;clear N1;clear c27;have c0:W1.cell? ⟨b,0,none⟩=some (.int .i64 r.x):=fits_cell ((unhide M).at 0 _ rfl) 0 _ rfl;refine Stp.go ?_))
 constructor
 go_wp2_with fail
 clear c0
 refine wp_region_any mixed (wpAny_tq 24 rfl (by kernel_rfl) [some (P0 b),some (P0 b),some (.pointer (some ⟨b,1,none⟩)),some (.int .i64 m),some (.bool true),some (.bool true),some (P0 b),some (P0 b),some (.pointer (some ⟨b,1,none⟩)),some (.int .i64 m),some (.int .i64 r.hn),some (.bool true),some (.bool true),some (.bool true),some (P0 b),some (P0 b),some (P0 b),some (.pointer (some ⟨b,1,none⟩)),some (.int .i64 m),some (P0 b),some (.pointer (some ⟨b,2,none⟩)),some (.pointer (some ⟨b,2+m,none⟩)),some (.bool true),some (.bool true)] rfl (by kernel_rfl) (by kernel_rfl) ?_ ?_)
 · intro i o' hi hsk ho a' w2 hout hin hk2
   replace hk2:Kept [] W1 w2:=ud hk2
   match i,ho,hsk with
   | 0,ho,hsk=>
     cases ho
     exact wp_move (.tmp 0) rfl _ ((ho9 hout 0).trans rfl) (tE rfl)
   | 1,ho,hsk=>
     cases ho
     exact o_nil (.tmp 24) rfl _ (is_tq (hi9 hin 0 24) rfl) (tE rfl)
   | 2,ho,hsk=>
     cases ho
     exact o_fld47_1 (.tmp 25) rfl b (0) (1) rfl (is_tq (hi9 hin 1 25) rfl) (tE rfl)
   | 3,ho,hsk=>
     cases ho
     exact o_load3 (.tmp 26) rfl _ _ (is_tq (hi9 hin 2 26) rfl) (by have h9:=fits_cell (((unhide M).step hk2).at 0 _ rfl) 1 _ rfl;rw [show (r.su1 (-1)).ow=_ from h2] at h9;exact h9) (tE rfl)
   | 4,ho,hsk=>
     cases ho
     exact c_geq3 (.tmp 27) (.const (.int .i64 (0))) rfl _ _ (true) (by simp) (is_tq (hi9 hin 3 27) rfl) rfl (tE rfl)
   | 5,ho,hsk=>
     cases ho
     exact wp_move (.tmp 28) rfl _ (is_tq (hi9 hin 4 28) rfl) (tE rfl)
   | 6,ho,hsk=>
     cases ho
     exact wp_move (.tmp 0) rfl _ ((ho9 hout 0).trans rfl) (tE rfl)
   | 7,ho,hsk=>
     cases ho
     exact o_nil (.tmp 30) rfl _ (is_tq (hi9 hin 6 30) rfl) (tE rfl)
   | 8,ho,hsk=>
     cases ho
     exact o_fld47_1 (.tmp 31) rfl b (0) (1) rfl (is_tq (hi9 hin 7 31) rfl) (tE rfl)
   | 9,ho,hsk=>
     cases ho
     exact o_load3 (.tmp 32) rfl _ _ (is_tq (hi9 hin 8 32) rfl) (by have h9:=fits_cell (((unhide M).step hk2).at 0 _ rfl) 1 _ rfl;rw [show (r.su1 (-1)).ow=_ from h2] at h9;exact h9) (tE rfl)
   | 10,ho,hsk=>
     cases ho
     exact wp_move (.tmp 2) rfl _ ((ho9 hout 2).trans rfl) (tE rfl)
   | 11,ho,hsk=>
     cases ho
     exact c_neq3 (.tmp 33) (.tmp 34) rfl _ _ (false) (by simpa using h3) (is_tq (hi9 hin 9 33) rfl) (is_tq (hi9 hin 10 34) rfl) (tE rfl)
   | 12,ho,hsk=>
     cases ho
     exact o_pick (.tmp 29) (.tmp 35) rfl _ (is_tq (hi9 hin 5 29) rfl) (is_tq (hi9 hin 11 35) rfl) (tE rfl)
   | 13,ho,hsk=>
     cases ho
     exact wp_move (.tmp 36) rfl _ (is_tq (hi9 hin 12 36) rfl) (tE rfl)
   | 14,ho,hsk=>
     cases ho
     exact wp_move (.tmp 0) rfl _ ((ho9 hout 0).trans rfl) (tE rfl)
   | 15,ho,hsk=>
     cases ho
     exact wp_move (.tmp 0) rfl _ ((ho9 hout 0).trans rfl) (tE rfl)
   | 16,ho,hsk=>
     cases ho
     exact o_nil (.tmp 39) rfl _ (is_tq (hi9 hin 15 39) rfl) (tE rfl)
   | 17,ho,hsk=>
     cases ho
     exact o_fld47_1 (.tmp 40) rfl b (0) (1) rfl (is_tq (hi9 hin 16 40) rfl) (tE rfl)
   | 18,ho,hsk=>
     cases ho
     exact o_load3 (.tmp 41) rfl _ _ (is_tq (hi9 hin 17 41) rfl) (by have h9:=fits_cell (((unhide M).step hk2).at 0 _ rfl) 1 _ rfl;rw [show (r.su1 (-1)).ow=_ from h2] at h9;exact h9) (tE rfl)
   | 19,ho,hsk=>
     cases ho
     exact o_nil (.tmp 38) rfl _ (is_tq (hi9 hin 14 38) rfl) (tE rfl)
   | 20,ho,hsk=>
     cases ho
     exact o_fld47_2 (.tmp 43) rfl b (0) (2) rfl (is_tq (hi9 hin 19 43) rfl) (tE rfl)
   | 21,ho,hsk=>
     cases ho
     exact o_idx45 (.tmp 44) (.tmp 42) rfl b (2) m (2+m) (hm) rfl (is_tq (hi9 hin 20 44) rfl) (is_tq (hi9 hin 18 42) rfl) (tE rfl)
   | 22,ho,hsk=>
     cases ho
     exact o_load4 (.tmp 45) rfl _ _ (is_tq (hi9 hin 21 45) rfl) (by have h9:=Blk.rsh (((unhide M).step hk2).at 0 _ rfl) (hm);rw [show (r.su1 (-1)).sh m=_ from h4] at h9;exact h9) (tE rfl)
   | 23,ho,hsk=>
     cases ho
     exact o_pick (.tmp 37) (.tmp 46) rfl _ (is_tq (hi9 hin 13 37) rfl) (is_tq (hi9 hin 22 46) rfl) (tE rfl)
 intro w9 hk9
 replace hk9:Kept [] W1 w9:=ud hk9
 simp only [valsQ,List.map_cons,List.map_nil,Option.getD_some,List.take_succ_cons,List.take_zero,putAll,Act.put,List.setIfInBounds_toArray,List.set_cons_succ,List.set_cons_zero]
 refine wpAny_done (by kernel_rfl) ?_ _
 replace M:=hide ((unhide M).step hk9)
 clear hk9
 have c1:w9.cell? ⟨b,1,none⟩=some (.int .i64 (m:Int)):=by rw [← h2];exact fits_cell ((unhide M).at 0 _ rfl) 1 _ rfl
 clear h2
 go_wp2_with (first |(refine wpSt1 size3 rfl (.tmp 54) (.tmp 52) rfl rfl b (38) 0 (.int .i64 (m:Int)) (⟨rfl,rfl⟩) rfl rfl (unhide M) rfl (show 38+1≤_ from Nat.le_of_ble_eq_true rfl) (rfl) ?_;intro W11 N11;replace M:Hid (Mm [b] w W11 [(b,80,(r.su1 m).C ln)]):=hide N11;clear N11;clear c1;refine Stp.go ?_))
 constructor
 go_wp2_with fail
 go_end0
 exact⟨rfl,(unhide M).at 0 _ rfl,(unhide M).kept⟩
theorem supply_1d (r:Rk) (ln:Value) (b:Nat) (w:World) (h:Blk w b 80 (r.C ln)) (hh:r.hn<8) (h1:r.x<0) (h2:r.ow= -1) (h5:r.sh r.hn=true):Calls Try.prog 90 #[P0 b] w (RV b ln w (r.su1 (-1))):=by
 have M:=hide (Mm.one h)
 have hhI:(r.hn:Int)<8:=by omega
 have c27:=fits_cell h 27 _ rfl
 clear h
 have h1d:decide (r.x≥0)=false:=by simpa using h1
 go_enter Try.func90,Try.ntmps90
 go_wp2_with (first |(refine wpSt1 size3 rfl (.tmp 11) (.const (.int .i64 (-1))) rfl rfl b (38) 0 (.int .i64 (-1)) (⟨rfl,rfl⟩) rfl rfl (unhide M) rfl (show 38+1≤_ from Nat.le_of_ble_eq_true rfl) (rfl) ?_;intro W1 N1;replace M:Hid (Mm [b] w W1 [(b,80,(r.su1 (-1)).C ln)]):=hide N1;clear N1;clear c27;have c0:W1.cell? ⟨b,0,none⟩=some (.int .i64 r.x):=fits_cell ((unhide M).at 0 _ rfl) 0 _ rfl;refine Stp.go ?_))
 constructor
 go_wp2_with fail
 clear c0
 refine wp_region_any mixed (wpAny_tq 24 rfl (by kernel_rfl) [some (P0 b),some (P0 b),some (.pointer (some ⟨b,1,none⟩)),some (.int .i64 (-1)),some (.bool false),some (.bool false),none,none,none,none,none,none,some (.bool false),some (.bool false),none,none,none,none,none,none,none,none,none,some (.bool false)] rfl (by kernel_rfl) (by kernel_rfl) ?_ ?_)
 · intro i o' hi hsk ho a' w2 hout hin hk2
   replace hk2:Kept [] W1 w2:=ud hk2
   match i,ho,hsk with
   | 0,ho,hsk=>
     cases ho
     exact wp_move (.tmp 0) rfl _ ((ho9 hout 0).trans rfl) (tE rfl)
   | 1,ho,hsk=>
     cases ho
     exact o_nil (.tmp 24) rfl _ (is_tq (hi9 hin 0 24) rfl) (tE rfl)
   | 2,ho,hsk=>
     cases ho
     exact o_fld47_1 (.tmp 25) rfl b (0) (1) rfl (is_tq (hi9 hin 1 25) rfl) (tE rfl)
   | 3,ho,hsk=>
     cases ho
     exact o_load3 (.tmp 26) rfl _ _ (is_tq (hi9 hin 2 26) rfl) (by have h9:=fits_cell (((unhide M).step hk2).at 0 _ rfl) 1 _ rfl;rw [show (r.su1 (-1)).ow=_ from h2] at h9;exact h9) (tE rfl)
   | 4,ho,hsk=>
     cases ho
     exact c_geq3 (.tmp 27) (.const (.int .i64 (0))) rfl _ _ (false) (rfl) (is_tq (hi9 hin 3 27) rfl) rfl (tE rfl)
   | 5,ho,hsk=>
     cases ho
     exact wp_move (.tmp 28) rfl _ (is_tq (hi9 hin 4 28) rfl) (tE rfl)
   | 6,ho,hsk=>
     cases hsk
   | 7,ho,hsk=>
     cases hsk
   | 8,ho,hsk=>
     cases hsk
   | 9,ho,hsk=>
     cases hsk
   | 10,ho,hsk=>
     cases hsk
   | 11,ho,hsk=>
     cases hsk
   | 12,ho,hsk=>
     cases ho
     exact o_pickN (.tmp 29) (.tmp 35) rfl (is_tq (hi9 hin 5 29) rfl) (tE rfl)
   | 13,ho,hsk=>
     cases ho
     exact wp_move (.tmp 36) rfl _ (is_tq (hi9 hin 12 36) rfl) (tE rfl)
   | 14,ho,hsk=>
     cases hsk
   | 15,ho,hsk=>
     cases hsk
   | 16,ho,hsk=>
     cases hsk
   | 17,ho,hsk=>
     cases hsk
   | 18,ho,hsk=>
     cases hsk
   | 19,ho,hsk=>
     cases hsk
   | 20,ho,hsk=>
     cases hsk
   | 21,ho,hsk=>
     cases hsk
   | 22,ho,hsk=>
     cases hsk
   | 23,ho,hsk=>
     cases ho
     exact o_pickN (.tmp 37) (.tmp 46) rfl (is_tq (hi9 hin 13 37) rfl) (tE rfl)
 intro w9 hk9
 replace hk9:Kept [] W1 w9:=ud hk9
 simp only [valsQ,List.map_cons,List.map_nil,Option.getD_some,Option.getD_none,List.take_succ_cons,List.take_zero,putAll,Act.put,List.setIfInBounds_toArray,List.set_cons_succ,List.set_cons_zero]
 refine wpAny_done (by kernel_rfl) ?_ _
 replace M:=hide ((unhide M).step hk9)
 clear hk9
 have c5:w9.cell? ⟨b,2+r.hn,none⟩=some (.bool true):=by have h9:=Blk.rsh ((unhide M).at 0 _ rfl) hh;rw [show (r.su1 (-1)).sh r.hn=_ from h5] at h9;exact h9
 clear h5
 go_wp2_with fail
 go_end0
 exact⟨rfl,(unhide M).at 0 _ rfl,(unhide M).kept⟩
theorem supply_1e (r:Rk) (ln:Value) (b:Nat) (w:World) (h:Blk w b 80 (r.C ln)) (hh:r.hn<8) (h1:r.x<0) (h2:r.ow= -1) (h5:r.sh r.hn=false):Calls Try.prog 90 #[P0 b] w (RV b ln w (r.su1 (low r.sh))):=by
 have M:=hide (Mm.one h)
 have hhI:(r.hn:Int)<8:=by omega
 have c27:=fits_cell h 27 _ rfl
 clear h
 have h1d:decide (r.x≥0)=false:=by simpa using h1
 go_enter Try.func90,Try.ntmps90
 go_wp2_with (first |(refine wpSt1 size3 rfl (.tmp 11) (.const (.int .i64 (-1))) rfl rfl b (38) 0 (.int .i64 (-1)) (⟨rfl,rfl⟩) rfl rfl (unhide M) rfl (show 38+1≤_ from Nat.le_of_ble_eq_true rfl) (rfl) ?_;intro W1 N1;replace M:Hid (Mm [b] w W1 [(b,80,(r.su1 (-1)).C ln)]):=hide N1;clear N1;clear c27;have c0:W1.cell? ⟨b,0,none⟩=some (.int .i64 r.x):=fits_cell ((unhide M).at 0 _ rfl) 0 _ rfl;refine Stp.go ?_))
 constructor
 go_wp2_with fail
 clear c0
 refine wp_region_any mixed (wpAny_tq 24 rfl (by kernel_rfl) [some (P0 b),some (P0 b),some (.pointer (some ⟨b,1,none⟩)),some (.int .i64 (-1)),some (.bool false),some (.bool false),none,none,none,none,none,none,some (.bool false),some (.bool false),none,none,none,none,none,none,none,none,none,some (.bool false)] rfl (by kernel_rfl) (by kernel_rfl) ?_ ?_)
 · intro i o' hi hsk ho a' w2 hout hin hk2
   replace hk2:Kept [] W1 w2:=ud hk2
   match i,ho,hsk with
   | 0,ho,hsk=>
     cases ho
     exact wp_move (.tmp 0) rfl _ ((ho9 hout 0).trans rfl) (tE rfl)
   | 1,ho,hsk=>
     cases ho
     exact o_nil (.tmp 24) rfl _ (is_tq (hi9 hin 0 24) rfl) (tE rfl)
   | 2,ho,hsk=>
     cases ho
     exact o_fld47_1 (.tmp 25) rfl b (0) (1) rfl (is_tq (hi9 hin 1 25) rfl) (tE rfl)
   | 3,ho,hsk=>
     cases ho
     exact o_load3 (.tmp 26) rfl _ _ (is_tq (hi9 hin 2 26) rfl) (by have h9:=fits_cell (((unhide M).step hk2).at 0 _ rfl) 1 _ rfl;rw [show (r.su1 (-1)).ow=_ from h2] at h9;exact h9) (tE rfl)
   | 4,ho,hsk=>
     cases ho
     exact c_geq3 (.tmp 27) (.const (.int .i64 (0))) rfl _ _ (false) (rfl) (is_tq (hi9 hin 3 27) rfl) rfl (tE rfl)
   | 5,ho,hsk=>
     cases ho
     exact wp_move (.tmp 28) rfl _ (is_tq (hi9 hin 4 28) rfl) (tE rfl)
   | 6,ho,hsk=>
     cases hsk
   | 7,ho,hsk=>
     cases hsk
   | 8,ho,hsk=>
     cases hsk
   | 9,ho,hsk=>
     cases hsk
   | 10,ho,hsk=>
     cases hsk
   | 11,ho,hsk=>
     cases hsk
   | 12,ho,hsk=>
     cases ho
     exact o_pickN (.tmp 29) (.tmp 35) rfl (is_tq (hi9 hin 5 29) rfl) (tE rfl)
   | 13,ho,hsk=>
     cases ho
     exact wp_move (.tmp 36) rfl _ (is_tq (hi9 hin 12 36) rfl) (tE rfl)
   | 14,ho,hsk=>
     cases hsk
   | 15,ho,hsk=>
     cases hsk
   | 16,ho,hsk=>
     cases hsk
   | 17,ho,hsk=>
     cases hsk
   | 18,ho,hsk=>
     cases hsk
   | 19,ho,hsk=>
     cases hsk
   | 20,ho,hsk=>
     cases hsk
   | 21,ho,hsk=>
     cases hsk
   | 22,ho,hsk=>
     cases hsk
   | 23,ho,hsk=>
     cases ho
     exact o_pickN (.tmp 37) (.tmp 46) rfl (is_tq (hi9 hin 13 37) rfl) (tE rfl)
 intro w9 hk9
 replace hk9:Kept [] W1 w9:=ud hk9
 simp only [valsQ,List.map_cons,List.map_nil,Option.getD_some,Option.getD_none,List.take_succ_cons,List.take_zero,putAll,Act.put,List.setIfInBounds_toArray,List.set_cons_succ,List.set_cons_zero]
 refine wpAny_done (by kernel_rfl) ?_ _
 replace M:=hide ((unhide M).step hk9)
 clear hk9
 have c5:w9.cell? ⟨b,2+r.hn,none⟩=some (.bool false):=by have h9:=Blk.rsh ((unhide M).at 0 _ rfl) hh;rw [show (r.su1 (-1)).sh r.hn=_ from h5] at h9;exact h9
 clear h5
 go_wp2_with fail
 clear c5
 go_loopw [3] (fun i wr=>∃k:Nat,k≤8∧i= .int .i64 ((k:Int)-1)∧Hid (Mm [b] w wr [(b,80,(r.su1 (lowFrom r.sh k (8-k))).C ln)])) (fun i _=>(intOf i+1).toNat)
 case atStart=>exact ⟨8,by omega,rfl,M⟩
 case round=>
   clear M
   obtain⟨k,hk,rfl,M⟩:=hrel
   cases k with
   | zero=>
     rw [show ((0:Nat):Int)-1= -1 from rfl]
     go_wp2_with fail
     go_end0
     exact⟨rfl,(unhide M).at 0 _ rfl,(unhide M).kept⟩
   | succ j=>
     have hj:j<8:=by omega
     rw [show ((j+1:Nat):Int)-1=(j:Int) by omega]
     have hjI:(j:Int)<8:=by omega
     have hd:decide ((j:Int)≥0)=true:=by simp
     have cj:=Blk.rsh ((unhide M).at 0 _ rfl) hj
     have HL:Hid (lowFrom r.sh j (8-j)=if r.sh j then (j:Int) else lowFrom r.sh (j+1) (8-(j+1))):=by
       show _=_
       rw [show 8-j=(8-(j+1))+1 by omega,lowFrom]
     cases hf:r.sh j with
     | true=>
       have cj2:wr.cell? ⟨b,2+j,none⟩=some (.bool true):=by rw [← hf];exact cj
       have HL2:Hid (lowFrom r.sh j (8-j)=(j:Int)):=by show _=_;rw [unhide HL,hf];rfl
       clear cj hf HL
       go_wp2_with (first |(refine wpSt1 size3 rfl (.tmp 74) (.tmp 72) rfl rfl b (38) 0 (.int .i64 (j:Int)) (⟨rfl,rfl⟩) rfl rfl (unhide M) rfl (show 38+1≤_ from Nat.le_of_ble_eq_true rfl) (rfl) ?_;intro W21 N21;replace M:Hid (Mm [b] w W21 [(b,80,(r.su1 (j:Int)).C ln)]):=hide N21;clear N21;clear cj2;refine Stp.go ?_))
       constructor
       go_wp2_with fail
       go_roundw
       case rel=>exact ⟨j,by omega,by go_num,by rw [unhide HL2];exact M⟩
       case measure=>simp [intOf]
     | false=>
       have cj2:wr.cell? ⟨b,2+j,none⟩=some (.bool false):=by rw [← hf];exact cj
       have HL2:Hid (lowFrom r.sh j (8-j)=lowFrom r.sh (j+1) (8-(j+1))):=by show _=_;rw [unhide HL,hf];rfl
       clear cj hf HL
       go_wp2_with fail
       go_roundw
       case rel=>exact ⟨j,by omega,by go_num,by rw [unhide HL2];exact M⟩
       case measure=>simp [intOf]
theorem supply_2d (r:Rk) (ln:Value) (b:Nat) (w:World) (h:Blk w b 80 (r.C ln)) (hh:r.hn<8) (h1:r.x<0) (h2:r.ow=(r.hn:Int)) (h5:r.sh r.hn=true):Calls Try.prog 90 #[P0 b] w (RV b ln w (r.su1 (-1))):=by
 have M:=hide (Mm.one h)
 have hhI:(r.hn:Int)<8:=by omega
 have c27:=fits_cell h 27 _ rfl
 clear h
 have h1d:decide (r.x≥0)=false:=by simpa using h1
 go_enter Try.func90,Try.ntmps90
 go_wp2_with (first |(refine wpSt1 size3 rfl (.tmp 11) (.const (.int .i64 (-1))) rfl rfl b (38) 0 (.int .i64 (-1)) (⟨rfl,rfl⟩) rfl rfl (unhide M) rfl (show 38+1≤_ from Nat.le_of_ble_eq_true rfl) (rfl) ?_;intro W1 N1;replace M:Hid (Mm [b] w W1 [(b,80,(r.su1 (-1)).C ln)]):=hide N1;clear N1;clear c27;have c0:W1.cell? ⟨b,0,none⟩=some (.int .i64 r.x):=fits_cell ((unhide M).at 0 _ rfl) 0 _ rfl;refine Stp.go ?_))
 constructor
 go_wp2_with fail
 clear c0
 refine wp_region_any mixed (wpAny_tq 24 rfl (by kernel_rfl) [some (P0 b),some (P0 b),some (.pointer (some ⟨b,1,none⟩)),some (.int .i64 r.hn),some (.bool true),some (.bool true),some (P0 b),some (P0 b),some (.pointer (some ⟨b,1,none⟩)),some (.int .i64 r.hn),some (.int .i64 r.hn),some (.bool false),some (.bool false),some (.bool false),none,none,none,none,none,none,none,none,none,some (.bool false)] rfl (by kernel_rfl) (by kernel_rfl) ?_ ?_)
 · intro i o' hi hsk ho a' w2 hout hin hk2
   replace hk2:Kept [] W1 w2:=ud hk2
   match i,ho,hsk with
   | 0,ho,hsk=>
     cases ho
     exact wp_move (.tmp 0) rfl _ ((ho9 hout 0).trans rfl) (tE rfl)
   | 1,ho,hsk=>
     cases ho
     exact o_nil (.tmp 24) rfl _ (is_tq (hi9 hin 0 24) rfl) (tE rfl)
   | 2,ho,hsk=>
     cases ho
     exact o_fld47_1 (.tmp 25) rfl b (0) (1) rfl (is_tq (hi9 hin 1 25) rfl) (tE rfl)
   | 3,ho,hsk=>
     cases ho
     exact o_load3 (.tmp 26) rfl _ _ (is_tq (hi9 hin 2 26) rfl) (by have h9:=fits_cell (((unhide M).step hk2).at 0 _ rfl) 1 _ rfl;rw [show (r.su1 (-1)).ow=_ from h2] at h9;exact h9) (tE rfl)
   | 4,ho,hsk=>
     cases ho
     exact c_geq3 (.tmp 27) (.const (.int .i64 (0))) rfl _ _ (true) (by simp) (is_tq (hi9 hin 3 27) rfl) rfl (tE rfl)
   | 5,ho,hsk=>
     cases ho
     exact wp_move (.tmp 28) rfl _ (is_tq (hi9 hin 4 28) rfl) (tE rfl)
   | 6,ho,hsk=>
     cases ho
     exact wp_move (.tmp 0) rfl _ ((ho9 hout 0).trans rfl) (tE rfl)
   | 7,ho,hsk=>
     cases ho
     exact o_nil (.tmp 30) rfl _ (is_tq (hi9 hin 6 30) rfl) (tE rfl)
   | 8,ho,hsk=>
     cases ho
     exact o_fld47_1 (.tmp 31) rfl b (0) (1) rfl (is_tq (hi9 hin 7 31) rfl) (tE rfl)
   | 9,ho,hsk=>
     cases ho
     exact o_load3 (.tmp 32) rfl _ _ (is_tq (hi9 hin 8 32) rfl) (by have h9:=fits_cell (((unhide M).step hk2).at 0 _ rfl) 1 _ rfl;rw [show (r.su1 (-1)).ow=_ from h2] at h9;exact h9) (tE rfl)
   | 10,ho,hsk=>
     cases ho
     exact wp_move (.tmp 2) rfl _ ((ho9 hout 2).trans rfl) (tE rfl)
   | 11,ho,hsk=>
     cases ho
     exact c_neq3 (.tmp 33) (.tmp 34) rfl _ _ (true) (by simp) (is_tq (hi9 hin 9 33) rfl) (is_tq (hi9 hin 10 34) rfl) (tE rfl)
   | 12,ho,hsk=>
     cases ho
     exact o_pick (.tmp 29) (.tmp 35) rfl _ (is_tq (hi9 hin 5 29) rfl) (is_tq (hi9 hin 11 35) rfl) (tE rfl)
   | 13,ho,hsk=>
     cases ho
     exact wp_move (.tmp 36) rfl _ (is_tq (hi9 hin 12 36) rfl) (tE rfl)
   | 14,ho,hsk=>
     cases hsk
   | 15,ho,hsk=>
     cases hsk
   | 16,ho,hsk=>
     cases hsk
   | 17,ho,hsk=>
     cases hsk
   | 18,ho,hsk=>
     cases hsk
   | 19,ho,hsk=>
     cases hsk
   | 20,ho,hsk=>
     cases hsk
   | 21,ho,hsk=>
     cases hsk
   | 22,ho,hsk=>
     cases hsk
   | 23,ho,hsk=>
     cases ho
     exact o_pickN (.tmp 37) (.tmp 46) rfl (is_tq (hi9 hin 13 37) rfl) (tE rfl)
 intro w9 hk9
 replace hk9:Kept [] W1 w9:=ud hk9
 simp only [valsQ,List.map_cons,List.map_nil,Option.getD_some,Option.getD_none,List.take_succ_cons,List.take_zero,putAll,Act.put,List.setIfInBounds_toArray,List.set_cons_succ,List.set_cons_zero]
 refine wpAny_done (by kernel_rfl) ?_ _
 replace M:=hide ((unhide M).step hk9)
 clear hk9
 have c5:w9.cell? ⟨b,2+r.hn,none⟩=some (.bool true):=by have h9:=Blk.rsh ((unhide M).at 0 _ rfl) hh;rw [show (r.su1 (-1)).sh r.hn=_ from h5] at h9;exact h9
 clear h5
 go_wp2_with fail
 go_end0
 exact⟨rfl,(unhide M).at 0 _ rfl,(unhide M).kept⟩
theorem supply_2e (r:Rk) (ln:Value) (b:Nat) (w:World) (h:Blk w b 80 (r.C ln)) (hh:r.hn<8) (h1:r.x<0) (h2:r.ow=(r.hn:Int)) (h5:r.sh r.hn=false):Calls Try.prog 90 #[P0 b] w (RV b ln w (r.su1 (low r.sh))):=by
 have M:=hide (Mm.one h)
 have hhI:(r.hn:Int)<8:=by omega
 have c27:=fits_cell h 27 _ rfl
 clear h
 have h1d:decide (r.x≥0)=false:=by simpa using h1
 go_enter Try.func90,Try.ntmps90
 go_wp2_with (first |(refine wpSt1 size3 rfl (.tmp 11) (.const (.int .i64 (-1))) rfl rfl b (38) 0 (.int .i64 (-1)) (⟨rfl,rfl⟩) rfl rfl (unhide M) rfl (show 38+1≤_ from Nat.le_of_ble_eq_true rfl) (rfl) ?_;intro W1 N1;replace M:Hid (Mm [b] w W1 [(b,80,(r.su1 (-1)).C ln)]):=hide N1;clear N1;clear c27;have c0:W1.cell? ⟨b,0,none⟩=some (.int .i64 r.x):=fits_cell ((unhide M).at 0 _ rfl) 0 _ rfl;refine Stp.go ?_))
 constructor
 go_wp2_with fail
 clear c0
 refine wp_region_any mixed (wpAny_tq 24 rfl (by kernel_rfl) [some (P0 b),some (P0 b),some (.pointer (some ⟨b,1,none⟩)),some (.int .i64 r.hn),some (.bool true),some (.bool true),some (P0 b),some (P0 b),some (.pointer (some ⟨b,1,none⟩)),some (.int .i64 r.hn),some (.int .i64 r.hn),some (.bool false),some (.bool false),some (.bool false),none,none,none,none,none,none,none,none,none,some (.bool false)] rfl (by kernel_rfl) (by kernel_rfl) ?_ ?_)
 · intro i o' hi hsk ho a' w2 hout hin hk2
   replace hk2:Kept [] W1 w2:=ud hk2
   match i,ho,hsk with
   | 0,ho,hsk=>
     cases ho
     exact wp_move (.tmp 0) rfl _ ((ho9 hout 0).trans rfl) (tE rfl)
   | 1,ho,hsk=>
     cases ho
     exact o_nil (.tmp 24) rfl _ (is_tq (hi9 hin 0 24) rfl) (tE rfl)
   | 2,ho,hsk=>
     cases ho
     exact o_fld47_1 (.tmp 25) rfl b (0) (1) rfl (is_tq (hi9 hin 1 25) rfl) (tE rfl)
   | 3,ho,hsk=>
     cases ho
     exact o_load3 (.tmp 26) rfl _ _ (is_tq (hi9 hin 2 26) rfl) (by have h9:=fits_cell (((unhide M).step hk2).at 0 _ rfl) 1 _ rfl;rw [show (r.su1 (-1)).ow=_ from h2] at h9;exact h9) (tE rfl)
   | 4,ho,hsk=>
     cases ho
     exact c_geq3 (.tmp 27) (.const (.int .i64 (0))) rfl _ _ (true) (by simp) (is_tq (hi9 hin 3 27) rfl) rfl (tE rfl)
   | 5,ho,hsk=>
     cases ho
     exact wp_move (.tmp 28) rfl _ (is_tq (hi9 hin 4 28) rfl) (tE rfl)
   | 6,ho,hsk=>
     cases ho
     exact wp_move (.tmp 0) rfl _ ((ho9 hout 0).trans rfl) (tE rfl)
   | 7,ho,hsk=>
     cases ho
     exact o_nil (.tmp 30) rfl _ (is_tq (hi9 hin 6 30) rfl) (tE rfl)
   | 8,ho,hsk=>
     cases ho
     exact o_fld47_1 (.tmp 31) rfl b (0) (1) rfl (is_tq (hi9 hin 7 31) rfl) (tE rfl)
   | 9,ho,hsk=>
     cases ho
     exact o_load3 (.tmp 32) rfl _ _ (is_tq (hi9 hin 8 32) rfl) (by have h9:=fits_cell (((unhide M).step hk2).at 0 _ rfl) 1 _ rfl;rw [show (r.su1 (-1)).ow=_ from h2] at h9;exact h9) (tE rfl)
   | 10,ho,hsk=>
     cases ho
     exact wp_move (.tmp 2) rfl _ ((ho9 hout 2).trans rfl) (tE rfl)
   | 11,ho,hsk=>
     cases ho
     exact c_neq3 (.tmp 33) (.tmp 34) rfl _ _ (true) (by simp) (is_tq (hi9 hin 9 33) rfl) (is_tq (hi9 hin 10 34) rfl) (tE rfl)
   | 12,ho,hsk=>
     cases ho
     exact o_pick (.tmp 29) (.tmp 35) rfl _ (is_tq (hi9 hin 5 29) rfl) (is_tq (hi9 hin 11 35) rfl) (tE rfl)
   | 13,ho,hsk=>
     cases ho
     exact wp_move (.tmp 36) rfl _ (is_tq (hi9 hin 12 36) rfl) (tE rfl)
   | 14,ho,hsk=>
     cases hsk
   | 15,ho,hsk=>
     cases hsk
   | 16,ho,hsk=>
     cases hsk
   | 17,ho,hsk=>
     cases hsk
   | 18,ho,hsk=>
     cases hsk
   | 19,ho,hsk=>
     cases hsk
   | 20,ho,hsk=>
     cases hsk
   | 21,ho,hsk=>
     cases hsk
   | 22,ho,hsk=>
     cases hsk
   | 23,ho,hsk=>
     cases ho
     exact o_pickN (.tmp 37) (.tmp 46) rfl (is_tq (hi9 hin 13 37) rfl) (tE rfl)
 intro w9 hk9
 replace hk9:Kept [] W1 w9:=ud hk9
 simp only [valsQ,List.map_cons,List.map_nil,Option.getD_some,Option.getD_none,List.take_succ_cons,List.take_zero,putAll,Act.put,List.setIfInBounds_toArray,List.set_cons_succ,List.set_cons_zero]
 refine wpAny_done (by kernel_rfl) ?_ _
 replace M:=hide ((unhide M).step hk9)
 clear hk9
 have c5:w9.cell? ⟨b,2+r.hn,none⟩=some (.bool false):=by have h9:=Blk.rsh ((unhide M).at 0 _ rfl) hh;rw [show (r.su1 (-1)).sh r.hn=_ from h5] at h9;exact h9
 clear h5
 go_wp2_with fail
 clear c5
 go_loopw [3] (fun i wr=>∃k:Nat,k≤8∧i= .int .i64 ((k:Int)-1)∧Hid (Mm [b] w wr [(b,80,(r.su1 (lowFrom r.sh k (8-k))).C ln)])) (fun i _=>(intOf i+1).toNat)
 case atStart=>exact ⟨8,by omega,rfl,M⟩
 case round=>
   clear M
   obtain⟨k,hk,rfl,M⟩:=hrel
   cases k with
   | zero=>
     rw [show ((0:Nat):Int)-1= -1 from rfl]
     go_wp2_with fail
     go_end0
     exact⟨rfl,(unhide M).at 0 _ rfl,(unhide M).kept⟩
   | succ j=>
     have hj:j<8:=by omega
     rw [show ((j+1:Nat):Int)-1=(j:Int) by omega]
     have hjI:(j:Int)<8:=by omega
     have hd:decide ((j:Int)≥0)=true:=by simp
     have cj:=Blk.rsh ((unhide M).at 0 _ rfl) hj
     have HL:Hid (lowFrom r.sh j (8-j)=if r.sh j then (j:Int) else lowFrom r.sh (j+1) (8-(j+1))):=by
       show _=_
       rw [show 8-j=(8-(j+1))+1 by omega,lowFrom]
     cases hf:r.sh j with
     | true=>
       have cj2:wr.cell? ⟨b,2+j,none⟩=some (.bool true):=by rw [← hf];exact cj
       have HL2:Hid (lowFrom r.sh j (8-j)=(j:Int)):=by show _=_;rw [unhide HL,hf];rfl
       clear cj hf HL
       go_wp2_with (first |(refine wpSt1 size3 rfl (.tmp 74) (.tmp 72) rfl rfl b (38) 0 (.int .i64 (j:Int)) (⟨rfl,rfl⟩) rfl rfl (unhide M) rfl (show 38+1≤_ from Nat.le_of_ble_eq_true rfl) (rfl) ?_;intro W21 N21;replace M:Hid (Mm [b] w W21 [(b,80,(r.su1 (j:Int)).C ln)]):=hide N21;clear N21;clear cj2;refine Stp.go ?_))
       constructor
       go_wp2_with fail
       go_roundw
       case rel=>exact ⟨j,by omega,by go_num,by rw [unhide HL2];exact M⟩
       case measure=>simp [intOf]
     | false=>
       have cj2:wr.cell? ⟨b,2+j,none⟩=some (.bool false):=by rw [← hf];exact cj
       have HL2:Hid (lowFrom r.sh j (8-j)=lowFrom r.sh (j+1) (8-(j+1))):=by show _=_;rw [unhide HL,hf];rfl
       clear cj hf HL
       go_wp2_with fail
       go_roundw
       case rel=>exact ⟨j,by omega,by go_num,by rw [unhide HL2];exact M⟩
       case measure=>simp [intOf]
theorem supply_3d (r:Rk) (ln:Value) (b:Nat) (w:World) (h:Blk w b 80 (r.C ln)) (hh:r.hn<8) (h1:r.x<0) (m:Nat) (hm:m<8) (h2:r.ow=(m:Int)) (h3:¬(m:Int)=(r.hn:Int)) (h4:r.sh m=false) (h5:r.sh r.hn=true):Calls Try.prog 90 #[P0 b] w (RV b ln w (r.su1 (-1))):=by
 have M:=hide (Mm.one h)
 have hhI:(r.hn:Int)<8:=by omega
 have c27:=fits_cell h 27 _ rfl
 clear h
 have h1d:decide (r.x≥0)=false:=by simpa using h1
 go_enter Try.func90,Try.ntmps90
 go_wp2_with (first |(refine wpSt1 size3 rfl (.tmp 11) (.const (.int .i64 (-1))) rfl rfl b (38) 0 (.int .i64 (-1)) (⟨rfl,rfl⟩) rfl rfl (unhide M) rfl (show 38+1≤_ from Nat.le_of_ble_eq_true rfl) (rfl) ?_;intro W1 N1;replace M:Hid (Mm [b] w W1 [(b,80,(r.su1 (-1)).C ln)]):=hide N1;clear N1;clear c27;have c0:W1.cell? ⟨b,0,none⟩=some (.int .i64 r.x):=fits_cell ((unhide M).at 0 _ rfl) 0 _ rfl;refine Stp.go ?_))
 constructor
 go_wp2_with fail
 clear c0
 refine wp_region_any mixed (wpAny_tq 24 rfl (by kernel_rfl) [some (P0 b),some (P0 b),some (.pointer (some ⟨b,1,none⟩)),some (.int .i64 m),some (.bool true),some (.bool true),some (P0 b),some (P0 b),some (.pointer (some ⟨b,1,none⟩)),some (.int .i64 m),some (.int .i64 r.hn),some (.bool true),some (.bool true),some (.bool true),some (P0 b),some (P0 b),some (P0 b),some (.pointer (some ⟨b,1,none⟩)),some (.int .i64 m),some (P0 b),some (.pointer (some ⟨b,2,none⟩)),some (.pointer (some ⟨b,2+m,none⟩)),some (.bool false),some (.bool false)] rfl (by kernel_rfl) (by kernel_rfl) ?_ ?_)
 · intro i o' hi hsk ho a' w2 hout hin hk2
   replace hk2:Kept [] W1 w2:=ud hk2
   match i,ho,hsk with
   | 0,ho,hsk=>
     cases ho
     exact wp_move (.tmp 0) rfl _ ((ho9 hout 0).trans rfl) (tE rfl)
   | 1,ho,hsk=>
     cases ho
     exact o_nil (.tmp 24) rfl _ (is_tq (hi9 hin 0 24) rfl) (tE rfl)
   | 2,ho,hsk=>
     cases ho
     exact o_fld47_1 (.tmp 25) rfl b (0) (1) rfl (is_tq (hi9 hin 1 25) rfl) (tE rfl)
   | 3,ho,hsk=>
     cases ho
     exact o_load3 (.tmp 26) rfl _ _ (is_tq (hi9 hin 2 26) rfl) (by have h9:=fits_cell (((unhide M).step hk2).at 0 _ rfl) 1 _ rfl;rw [show (r.su1 (-1)).ow=_ from h2] at h9;exact h9) (tE rfl)
   | 4,ho,hsk=>
     cases ho
     exact c_geq3 (.tmp 27) (.const (.int .i64 (0))) rfl _ _ (true) (by simp) (is_tq (hi9 hin 3 27) rfl) rfl (tE rfl)
   | 5,ho,hsk=>
     cases ho
     exact wp_move (.tmp 28) rfl _ (is_tq (hi9 hin 4 28) rfl) (tE rfl)
   | 6,ho,hsk=>
     cases ho
     exact wp_move (.tmp 0) rfl _ ((ho9 hout 0).trans rfl) (tE rfl)
   | 7,ho,hsk=>
     cases ho
     exact o_nil (.tmp 30) rfl _ (is_tq (hi9 hin 6 30) rfl) (tE rfl)
   | 8,ho,hsk=>
     cases ho
     exact o_fld47_1 (.tmp 31) rfl b (0) (1) rfl (is_tq (hi9 hin 7 31) rfl) (tE rfl)
   | 9,ho,hsk=>
     cases ho
     exact o_load3 (.tmp 32) rfl _ _ (is_tq (hi9 hin 8 32) rfl) (by have h9:=fits_cell (((unhide M).step hk2).at 0 _ rfl) 1 _ rfl;rw [show (r.su1 (-1)).ow=_ from h2] at h9;exact h9) (tE rfl)
   | 10,ho,hsk=>
     cases ho
     exact wp_move (.tmp 2) rfl _ ((ho9 hout 2).trans rfl) (tE rfl)
   | 11,ho,hsk=>
     cases ho
     exact c_neq3 (.tmp 33) (.tmp 34) rfl _ _ (false) (by simpa using h3) (is_tq (hi9 hin 9 33) rfl) (is_tq (hi9 hin 10 34) rfl) (tE rfl)
   | 12,ho,hsk=>
     cases ho
     exact o_pick (.tmp 29) (.tmp 35) rfl _ (is_tq (hi9 hin 5 29) rfl) (is_tq (hi9 hin 11 35) rfl) (tE rfl)
   | 13,ho,hsk=>
     cases ho
     exact wp_move (.tmp 36) rfl _ (is_tq (hi9 hin 12 36) rfl) (tE rfl)
   | 14,ho,hsk=>
     cases ho
     exact wp_move (.tmp 0) rfl _ ((ho9 hout 0).trans rfl) (tE rfl)
   | 15,ho,hsk=>
     cases ho
     exact wp_move (.tmp 0) rfl _ ((ho9 hout 0).trans rfl) (tE rfl)
   | 16,ho,hsk=>
     cases ho
     exact o_nil (.tmp 39) rfl _ (is_tq (hi9 hin 15 39) rfl) (tE rfl)
   | 17,ho,hsk=>
     cases ho
     exact o_fld47_1 (.tmp 40) rfl b (0) (1) rfl (is_tq (hi9 hin 16 40) rfl) (tE rfl)
   | 18,ho,hsk=>
     cases ho
     exact o_load3 (.tmp 41) rfl _ _ (is_tq (hi9 hin 17 41) rfl) (by have h9:=fits_cell (((unhide M).step hk2).at 0 _ rfl) 1 _ rfl;rw [show (r.su1 (-1)).ow=_ from h2] at h9;exact h9) (tE rfl)
   | 19,ho,hsk=>
     cases ho
     exact o_nil (.tmp 38) rfl _ (is_tq (hi9 hin 14 38) rfl) (tE rfl)
   | 20,ho,hsk=>
     cases ho
     exact o_fld47_2 (.tmp 43) rfl b (0) (2) rfl (is_tq (hi9 hin 19 43) rfl) (tE rfl)
   | 21,ho,hsk=>
     cases ho
     exact o_idx45 (.tmp 44) (.tmp 42) rfl b (2) m (2+m) (hm) rfl (is_tq (hi9 hin 20 44) rfl) (is_tq (hi9 hin 18 42) rfl) (tE rfl)
   | 22,ho,hsk=>
     cases ho
     exact o_load4 (.tmp 45) rfl _ _ (is_tq (hi9 hin 21 45) rfl) (by have h9:=Blk.rsh (((unhide M).step hk2).at 0 _ rfl) (hm);rw [show (r.su1 (-1)).sh m=_ from h4] at h9;exact h9) (tE rfl)
   | 23,ho,hsk=>
     cases ho
     exact o_pick (.tmp 37) (.tmp 46) rfl _ (is_tq (hi9 hin 13 37) rfl) (is_tq (hi9 hin 22 46) rfl) (tE rfl)
 intro w9 hk9
 replace hk9:Kept [] W1 w9:=ud hk9
 simp only [valsQ,List.map_cons,List.map_nil,Option.getD_some,List.take_succ_cons,List.take_zero,putAll,Act.put,List.setIfInBounds_toArray,List.set_cons_succ,List.set_cons_zero]
 refine wpAny_done (by kernel_rfl) ?_ _
 replace M:=hide ((unhide M).step hk9)
 clear hk9
 have c5:w9.cell? ⟨b,2+r.hn,none⟩=some (.bool true):=by have h9:=Blk.rsh ((unhide M).at 0 _ rfl) hh;rw [show (r.su1 (-1)).sh r.hn=_ from h5] at h9;exact h9
 clear h5
 go_wp2_with fail
 go_end0
 exact⟨rfl,(unhide M).at 0 _ rfl,(unhide M).kept⟩
theorem supply_3e (r:Rk) (ln:Value) (b:Nat) (w:World) (h:Blk w b 80 (r.C ln)) (hh:r.hn<8) (h1:r.x<0) (m:Nat) (hm:m<8) (h2:r.ow=(m:Int)) (h3:¬(m:Int)=(r.hn:Int)) (h4:r.sh m=false) (h5:r.sh r.hn=false):Calls Try.prog 90 #[P0 b] w (RV b ln w (r.su1 (low r.sh))):=by
 have M:=hide (Mm.one h)
 have hhI:(r.hn:Int)<8:=by omega
 have c27:=fits_cell h 27 _ rfl
 clear h
 have h1d:decide (r.x≥0)=false:=by simpa using h1
 go_enter Try.func90,Try.ntmps90
 go_wp2_with (first |(refine wpSt1 size3 rfl (.tmp 11) (.const (.int .i64 (-1))) rfl rfl b (38) 0 (.int .i64 (-1)) (⟨rfl,rfl⟩) rfl rfl (unhide M) rfl (show 38+1≤_ from Nat.le_of_ble_eq_true rfl) (rfl) ?_;intro W1 N1;replace M:Hid (Mm [b] w W1 [(b,80,(r.su1 (-1)).C ln)]):=hide N1;clear N1;clear c27;have c0:W1.cell? ⟨b,0,none⟩=some (.int .i64 r.x):=fits_cell ((unhide M).at 0 _ rfl) 0 _ rfl;refine Stp.go ?_))
 constructor
 go_wp2_with fail
 clear c0
 refine wp_region_any mixed (wpAny_tq 24 rfl (by kernel_rfl) [some (P0 b),some (P0 b),some (.pointer (some ⟨b,1,none⟩)),some (.int .i64 m),some (.bool true),some (.bool true),some (P0 b),some (P0 b),some (.pointer (some ⟨b,1,none⟩)),some (.int .i64 m),some (.int .i64 r.hn),some (.bool true),some (.bool true),some (.bool true),some (P0 b),some (P0 b),some (P0 b),some (.pointer (some ⟨b,1,none⟩)),some (.int .i64 m),some (P0 b),some (.pointer (some ⟨b,2,none⟩)),some (.pointer (some ⟨b,2+m,none⟩)),some (.bool false),some (.bool false)] rfl (by kernel_rfl) (by kernel_rfl) ?_ ?_)
 · intro i o' hi hsk ho a' w2 hout hin hk2
   replace hk2:Kept [] W1 w2:=ud hk2
   match i,ho,hsk with
   | 0,ho,hsk=>
     cases ho
     exact wp_move (.tmp 0) rfl _ ((ho9 hout 0).trans rfl) (tE rfl)
   | 1,ho,hsk=>
     cases ho
     exact o_nil (.tmp 24) rfl _ (is_tq (hi9 hin 0 24) rfl) (tE rfl)
   | 2,ho,hsk=>
     cases ho
     exact o_fld47_1 (.tmp 25) rfl b (0) (1) rfl (is_tq (hi9 hin 1 25) rfl) (tE rfl)
   | 3,ho,hsk=>
     cases ho
     exact o_load3 (.tmp 26) rfl _ _ (is_tq (hi9 hin 2 26) rfl) (by have h9:=fits_cell (((unhide M).step hk2).at 0 _ rfl) 1 _ rfl;rw [show (r.su1 (-1)).ow=_ from h2] at h9;exact h9) (tE rfl)
   | 4,ho,hsk=>
     cases ho
     exact c_geq3 (.tmp 27) (.const (.int .i64 (0))) rfl _ _ (true) (by simp) (is_tq (hi9 hin 3 27) rfl) rfl (tE rfl)
   | 5,ho,hsk=>
     cases ho
     exact wp_move (.tmp 28) rfl _ (is_tq (hi9 hin 4 28) rfl) (tE rfl)
   | 6,ho,hsk=>
     cases ho
     exact wp_move (.tmp 0) rfl _ ((ho9 hout 0).trans rfl) (tE rfl)
   | 7,ho,hsk=>
     cases ho
     exact o_nil (.tmp 30) rfl _ (is_tq (hi9 hin 6 30) rfl) (tE rfl)
   | 8,ho,hsk=>
     cases ho
     exact o_fld47_1 (.tmp 31) rfl b (0) (1) rfl (is_tq (hi9 hin 7 31) rfl) (tE rfl)
   | 9,ho,hsk=>
     cases ho
     exact o_load3 (.tmp 32) rfl _ _ (is_tq (hi9 hin 8 32) rfl) (by have h9:=fits_cell (((unhide M).step hk2).at 0 _ rfl) 1 _ rfl;rw [show (r.su1 (-1)).ow=_ from h2] at h9;exact h9) (tE rfl)
   | 10,ho,hsk=>
     cases ho
     exact wp_move (.tmp 2) rfl _ ((ho9 hout 2).trans rfl) (tE rfl)
   | 11,ho,hsk=>
     cases ho
     exact c_neq3 (.tmp 33) (.tmp 34) rfl _ _ (false) (by simpa using h3) (is_tq (hi9 hin 9 33) rfl) (is_tq (hi9 hin 10 34) rfl) (tE rfl)
   | 12,ho,hsk=>
     cases ho
     exact o_pick (.tmp 29) (.tmp 35) rfl _ (is_tq (hi9 hin 5 29) rfl) (is_tq (hi9 hin 11 35) rfl) (tE rfl)
   | 13,ho,hsk=>
     cases ho
     exact wp_move (.tmp 36) rfl _ (is_tq (hi9 hin 12 36) rfl) (tE rfl)
   | 14,ho,hsk=>
     cases ho
     exact wp_move (.tmp 0) rfl _ ((ho9 hout 0).trans rfl) (tE rfl)
   | 15,ho,hsk=>
     cases ho
     exact wp_move (.tmp 0) rfl _ ((ho9 hout 0).trans rfl) (tE rfl)
   | 16,ho,hsk=>
     cases ho
     exact o_nil (.tmp 39) rfl _ (is_tq (hi9 hin 15 39) rfl) (tE rfl)
   | 17,ho,hsk=>
     cases ho
     exact o_fld47_1 (.tmp 40) rfl b (0) (1) rfl (is_tq (hi9 hin 16 40) rfl) (tE rfl)
   | 18,ho,hsk=>
     cases ho
     exact o_load3 (.tmp 41) rfl _ _ (is_tq (hi9 hin 17 41) rfl) (by have h9:=fits_cell (((unhide M).step hk2).at 0 _ rfl) 1 _ rfl;rw [show (r.su1 (-1)).ow=_ from h2] at h9;exact h9) (tE rfl)
   | 19,ho,hsk=>
     cases ho
     exact o_nil (.tmp 38) rfl _ (is_tq (hi9 hin 14 38) rfl) (tE rfl)
   | 20,ho,hsk=>
     cases ho
     exact o_fld47_2 (.tmp 43) rfl b (0) (2) rfl (is_tq (hi9 hin 19 43) rfl) (tE rfl)
   | 21,ho,hsk=>
     cases ho
     exact o_idx45 (.tmp 44) (.tmp 42) rfl b (2) m (2+m) (hm) rfl (is_tq (hi9 hin 20 44) rfl) (is_tq (hi9 hin 18 42) rfl) (tE rfl)
   | 22,ho,hsk=>
     cases ho
     exact o_load4 (.tmp 45) rfl _ _ (is_tq (hi9 hin 21 45) rfl) (by have h9:=Blk.rsh (((unhide M).step hk2).at 0 _ rfl) (hm);rw [show (r.su1 (-1)).sh m=_ from h4] at h9;exact h9) (tE rfl)
   | 23,ho,hsk=>
     cases ho
     exact o_pick (.tmp 37) (.tmp 46) rfl _ (is_tq (hi9 hin 13 37) rfl) (is_tq (hi9 hin 22 46) rfl) (tE rfl)
 intro w9 hk9
 replace hk9:Kept [] W1 w9:=ud hk9
 simp only [valsQ,List.map_cons,List.map_nil,Option.getD_some,List.take_succ_cons,List.take_zero,putAll,Act.put,List.setIfInBounds_toArray,List.set_cons_succ,List.set_cons_zero]
 refine wpAny_done (by kernel_rfl) ?_ _
 replace M:=hide ((unhide M).step hk9)
 clear hk9
 have c5:w9.cell? ⟨b,2+r.hn,none⟩=some (.bool false):=by have h9:=Blk.rsh ((unhide M).at 0 _ rfl) hh;rw [show (r.su1 (-1)).sh r.hn=_ from h5] at h9;exact h9
 clear h5
 go_wp2_with fail
 clear c5
 go_loopw [3] (fun i wr=>∃k:Nat,k≤8∧i= .int .i64 ((k:Int)-1)∧Hid (Mm [b] w wr [(b,80,(r.su1 (lowFrom r.sh k (8-k))).C ln)])) (fun i _=>(intOf i+1).toNat)
 case atStart=>exact ⟨8,by omega,rfl,M⟩
 case round=>
   clear M
   obtain⟨k,hk,rfl,M⟩:=hrel
   cases k with
   | zero=>
     rw [show ((0:Nat):Int)-1= -1 from rfl]
     go_wp2_with fail
     go_end0
     exact⟨rfl,(unhide M).at 0 _ rfl,(unhide M).kept⟩
   | succ j=>
     have hj:j<8:=by omega
     rw [show ((j+1:Nat):Int)-1=(j:Int) by omega]
     have hjI:(j:Int)<8:=by omega
     have hd:decide ((j:Int)≥0)=true:=by simp
     have cj:=Blk.rsh ((unhide M).at 0 _ rfl) hj
     have HL:Hid (lowFrom r.sh j (8-j)=if r.sh j then (j:Int) else lowFrom r.sh (j+1) (8-(j+1))):=by
       show _=_
       rw [show 8-j=(8-(j+1))+1 by omega,lowFrom]
     cases hf:r.sh j with
     | true=>
       have cj2:wr.cell? ⟨b,2+j,none⟩=some (.bool true):=by rw [← hf];exact cj
       have HL2:Hid (lowFrom r.sh j (8-j)=(j:Int)):=by show _=_;rw [unhide HL,hf];rfl
       clear cj hf HL
       go_wp2_with (first |(refine wpSt1 size3 rfl (.tmp 74) (.tmp 72) rfl rfl b (38) 0 (.int .i64 (j:Int)) (⟨rfl,rfl⟩) rfl rfl (unhide M) rfl (show 38+1≤_ from Nat.le_of_ble_eq_true rfl) (rfl) ?_;intro W21 N21;replace M:Hid (Mm [b] w W21 [(b,80,(r.su1 (j:Int)).C ln)]):=hide N21;clear N21;clear cj2;refine Stp.go ?_))
       constructor
       go_wp2_with fail
       go_roundw
       case rel=>exact ⟨j,by omega,by go_num,by rw [unhide HL2];exact M⟩
       case measure=>simp [intOf]
     | false=>
       have cj2:wr.cell? ⟨b,2+j,none⟩=some (.bool false):=by rw [← hf];exact cj
       have HL2:Hid (lowFrom r.sh j (8-j)=lowFrom r.sh (j+1) (8-(j+1))):=by show _=_;rw [unhide HL,hf];rfl
       clear cj hf HL
       go_wp2_with fail
       go_roundw
       case rel=>exact ⟨j,by omega,by go_num,by rw [unhide HL2];exact M⟩
       case measure=>simp [intOf]
theorem supply71 (r:Rk) (ln:Value) (b:Nat) (w:World) (h:Blk w b 80 (r.C ln)) (hr:r.Ok):Calls Try.prog 90 #[P0 b] w (RV b ln w r.find):=by
 have hx:=hr.x
 have ho:=hr.ow
 have key:r.find=r.su1 r.sup:=rfl
 rw [key]
 unfold Rk.sup
 by_cases h1:0≤r.x
 · rw [if_pos h1]
   have:=supply_a r ln b w h hr.hn r.x.toNat (by omega) (by omega)
   rw [show ((r.x.toNat:Nat):Int)=r.x by omega] at this
   exact this
 · rw [if_neg h1]
   have h1':r.x<0:=by omega
   by_cases h2:r.ow= -1
   · rw [if_neg (by omega)]
     cases h5:r.sh r.hn with
     | true=>exact supply_1d r ln b w h hr.hn h1' h2 h5
     | false=>exact supply_1e r ln b w h hr.hn h1' h2 h5
   · have e:r.ow=(r.ow.toNat:Int):=by omega
     by_cases h3:r.ow=(r.hn:Int)
     · rw [if_neg (by simp [h3])]
       cases h5:r.sh r.hn with
       | true=>exact supply_2d r ln b w h hr.hn h1' h3 h5
       | false=>exact supply_2e r ln b w h hr.hn h1' h3 h5
     · cases h4:r.sh r.ow.toNat with
       | true=>
         rw [if_pos ⟨by omega,h3,rfl⟩]
         have:=supply_b r ln b w h hr.hn h1' r.ow.toNat (by omega) e (by omega) h4
         rw [show ((r.ow.toNat:Nat):Int)=r.ow by omega] at this
         exact this
       | false=>
         rw [if_neg (by simp)]
         cases h5:r.sh r.hn with
         | true=>exact supply_3d r ln b w h hr.hn h1' r.ow.toNat (by omega) e (by omega) h4 h5
         | false=>exact supply_3e r ln b w h hr.hn h1' r.ow.toNat (by omega) e (by omega) h4 h5
def Rk.wt1 (r:Rk) (x:Int):Rk:= { r with wt:=x }
def Rk.on (r:Rk):Rk×List Od:=(r.wt1 2,if r.su<0 then [⟨1,r.hn,r.op,2,0,0⟩] else [⟨3,r.su,r.op,0,r.hn,0⟩])
theorem on_a (r:Rk) (ln:Value) (b:Nat) (w:World) (h:Blk w b 80 (r.C ln)) (h1:r.su<0):Calls Try.prog 91 #[P0 b] w (RR b ln w (r.wt1 2,[⟨1,r.hn,r.op,2,0,0⟩])):=by
 have M:=hide (Mm.one h)
 have h1d:decide (r.su<0)=true:=by simpa using h1
 clear h
 go_enter Try.func91,Try.ntmps91
 go_wp2_with (first |(refine wpSt1 size3 rfl (.tmp 5) (.const (.int .i64 2)) rfl rfl b (29) 0 (.int .i64 2) (⟨rfl,rfl⟩) rfl rfl (unhide M) rfl (show 29+1≤_ from Nat.le_of_ble_eq_true rfl) (rfl) ?_;intro W1 N1;replace M:Hid (Mm [b] w W1 [(b,80,(r.wt1 2).C ln)]):=hide N1;clear N1;have c38:W1.cell? ⟨b,38,none⟩=some (.int .i64 r.su):=fits_cell ((unhide M).at 0 _ rfl) 38 _ rfl;refine Stp.go ?_))
 constructor
 go_wp2_with fail
 clear c38
 refine wp_region_any mixed (wpAny_gx 12 rfl (by kernel_rfl) [some (P0 b),some (P0 b),some (.pointer (some ⟨b,27,none⟩)),some (.pointer (some ⟨b,27,none⟩)),some (.int .i64 r.hn),some (P0 b),some (P0 b),some (.pointer (some ⟨b,39,none⟩)),some (.int .i64 r.op),some (aggV (Od.C ⟨1,r.hn,r.op,2,0,0⟩)),none,none] rfl (by kernel_rfl) (fun l vs W=>(SN [b] w [(b,80,(r.wt1 2).C ln)] 74 (Od.C ⟨1,r.hn,r.op,2,0,0⟩) 10 11) (fun i=>l.getD i false) vs W) (⟨fun _=>(unhide M).drew,(fun h=>by cases h),fun h=>by cases h⟩) ?_ ?_)
 · intro ix o' hi ho a' w2 l vs hls hlf hJ hout hin hdep hnot
   match ix,ho with
   | 0,ho=>
     cases ho
     have e0:=ho9 hout 0
     replace e0:a'.eval (.tmp 0)=_:=e0.trans rfl
     exact wp_move (.tmp 0) rfl _ e0 ⟨_,rfl,told_of rfl,keepG [10,11] SN.loc (by omega) (by decide) hJ⟩
   | 1,ho=>
     cases ho
     exact o_nil (.tmp 11) rfl _ (hx9 (hi9 hin 0 11) rfl) ⟨_,rfl,told_of rfl,keepG [10,11] SN.loc (by omega) (by decide) hJ⟩
   | 2,ho=>
     cases ho
     exact o_fld47_6 (.tmp 12) rfl b (0) (27) rfl (hx9 (hi9 hin 1 12) rfl) ⟨_,rfl,told_of rfl,keepG [10,11] SN.loc (by omega) (by decide) hJ⟩
   | 3,ho=>
     cases ho
     exact o_fld41_0 (.tmp 13) rfl b (27) (27) rfl (hx9 (hi9 hin 2 13) rfl) ⟨_,rfl,told_of rfl,keepG [10,11] SN.loc (by omega) (by decide) hJ⟩
   | 4,ho=>
     cases ho
     exact o_load3 (.tmp 14) rfl _ _ (hx9 (hi9 hin 3 14) rfl) (fits_cell (SN.at hJ 0 _ rfl) 27 _ rfl) ⟨_,rfl,told_of rfl,keepG [10,11] SN.loc (by omega) (by decide) hJ⟩
   | 5,ho=>
     cases ho
     have e0:=ho9 hout 0
     replace e0:a'.eval (.tmp 0)=_:=e0.trans rfl
     exact wp_move (.tmp 0) rfl _ e0 ⟨_,rfl,told_of rfl,keepG [10,11] SN.loc (by omega) (by decide) hJ⟩
   | 6,ho=>
     cases ho
     exact o_nil (.tmp 16) rfl _ (hx9 (hi9 hin 5 16) rfl) ⟨_,rfl,told_of rfl,keepG [10,11] SN.loc (by omega) (by decide) hJ⟩
   | 7,ho=>
     cases ho
     exact o_fld47_10 (.tmp 17) rfl b (0) (39) rfl (hx9 (hi9 hin 6 17) rfl) ⟨_,rfl,told_of rfl,keepG [10,11] SN.loc (by omega) (by decide) hJ⟩
   | 8,ho=>
     cases ho
     exact o_load2 (.tmp 18) rfl _ _ (hx9 (hi9 hin 7 18) rfl) (fits_cell (SN.at hJ 0 _ rfl) 39 _ rfl) ⟨_,rfl,told_of rfl,keepG [10,11] SN.loc (by omega) (by decide) hJ⟩
   | 9,ho=>
     cases ho
     exact o_boa (.const (.int .i64 1)) (.tmp 15) (.tmp 19) (.const (.int .i64 2)) rfl _ _ _ _ rfl (hx9 (hi9 hin 4 15) rfl) (hx9 (hi9 hin 8 19) rfl) rfl ⟨_,rfl,told_of rfl,keepG [10,11] SN.loc (by omega) (by decide) hJ⟩
   | 10,ho=>
     cases ho
     have e0:a'.eval (.tmp 20)=aggV (Od.C ⟨1,r.hn,r.op,2,0,0⟩):=hx9 (hi9 hin 9 20) rfl
     refine o_bs28 (.tmp 20) rfl _ e0 (fun W g h1 h2 h3=> ?_)
     exact⟨_,rfl,told_no rfl,nextG (by omega) (SN.make hJ hlf (ho9 hnot 11) (by decide) h1 h2 h3)⟩
   | 11,ho=>
     cases ho
     have e0:a'.eval (.tmp 21)=vs 10:=(hi9 hin 10 21).1
     exact wp_assignV (.tmp 21) rfl _ e0 ⟨_,rfl,told_no rfl,nextG (by omega) (SN.give hJ (ho9 hdep 10) (by decide))⟩
 intro l_ vs4 V4 hl hJ htold
 have t0:vs4 0=P0 b:=told_is _ (htold 0 (by decide)) rfl
 have t1:vs4 1=P0 b:=told_is _ (htold 1 (by decide)) rfl
 have t2:vs4 2= .pointer (some ⟨b,27,none⟩):=told_is _ (htold 2 (by decide)) rfl
 have t3:vs4 3= .pointer (some ⟨b,27,none⟩):=told_is _ (htold 3 (by decide)) rfl
 have t4:vs4 4= .int .i64 r.hn:=told_is _ (htold 4 (by decide)) rfl
 have t5:vs4 5=P0 b:=told_is _ (htold 5 (by decide)) rfl
 have t6:vs4 6=P0 b:=told_is _ (htold 6 (by decide)) rfl
 have t7:vs4 7= .pointer (some ⟨b,39,none⟩):=told_is _ (htold 7 (by decide)) rfl
 have t8:vs4 8= .int .i64 r.op:=told_is _ (htold 8 (by decide)) rfl
 have t9:vs4 9=aggV (Od.C ⟨1,r.hn,r.op,2,0,0⟩):=told_is _ (htold 9 (by decide)) rfl
 rw [show (List.range 12).map vs4= [vs4 0,vs4 1,vs4 2,vs4 3,vs4 4,vs4 5,vs4 6,vs4 7,vs4 8,vs4 9,vs4 10,vs4 11] from rfl]
 simp only [t0,t1,t2,t3,t4,t5,t6,t7,t8,t9,putAll,Act.put,List.setIfInBounds_toArray,List.set_cons_succ,List.set_cons_zero]
 clear t0 t1 t2 t3 t4 t5 t6 t7 t8 t9 htold
 obtain⟨_,h2,h3⟩:=hJ
 obtain⟨g,eg,hg,hM⟩:=h2 (hl 10 (by decide))
 have e6:=h3 (hl 11 (by decide))
 rw [eg] at e6
 rw [e6,eg]
 have HM:=hide hM
 have HG:=hide hg
 clear h2 h3 hM hg e6 eg hl
 go_wp2_with fail
 go_ret
 exact⟨_,rfl,Ou.made ((unhide HM).at 1 _ rfl) (unhide HG),(unhide HM).at 0 _ rfl,(unhide HM).kept⟩
theorem on_b (r:Rk) (ln:Value) (b:Nat) (w:World) (h:Blk w b 80 (r.C ln)) (h1:¬r.su<0):Calls Try.prog 91 #[P0 b] w (RR b ln w (r.wt1 2,[⟨3,r.su,r.op,0,r.hn,0⟩])):=by
 have M:=hide (Mm.one h)
 have h1d:decide (r.su<0)=false:=by simpa using h1
 clear h
 go_enter Try.func91,Try.ntmps91
 go_wp2_with (first |(refine wpSt1 size3 rfl (.tmp 5) (.const (.int .i64 2)) rfl rfl b (29) 0 (.int .i64 2) (⟨rfl,rfl⟩) rfl rfl (unhide M) rfl (show 29+1≤_ from Nat.le_of_ble_eq_true rfl) (rfl) ?_;intro W1 N1;replace M:Hid (Mm [b] w W1 [(b,80,(r.wt1 2).C ln)]):=hide N1;clear N1;have c38:W1.cell? ⟨b,38,none⟩=some (.int .i64 r.su):=fits_cell ((unhide M).at 0 _ rfl) 38 _ rfl;refine Stp.go ?_))
 constructor
 go_wp2_with fail
 clear c38
 refine wp_region_any mixed (wpAny_gx 16 rfl (by kernel_rfl) [some (P0 b),some (P0 b),some (.pointer (some ⟨b,38,none⟩)),some (.int .i64 r.su),some (P0 b),some (P0 b),some (.pointer (some ⟨b,39,none⟩)),some (.int .i64 r.op),some (P0 b),some (P0 b),some (.pointer (some ⟨b,27,none⟩)),some (.pointer (some ⟨b,27,none⟩)),some (.int .i64 r.hn),some (aggV (Od.C ⟨3,r.su,r.op,0,r.hn,0⟩)),none,none] rfl (by kernel_rfl) (fun l vs W=>(SN [b] w [(b,80,(r.wt1 2).C ln)] 74 (Od.C ⟨3,r.su,r.op,0,r.hn,0⟩) 14 15) (fun i=>l.getD i false) vs W) (⟨fun _=>(unhide M).drew,(fun h=>by cases h),fun h=>by cases h⟩) ?_ ?_)
 · intro ix o' hi ho a' w2 l vs hls hlf hJ hout hin hdep hnot
   match ix,ho with
   | 0,ho=>
     cases ho
     have e0:=ho9 hout 0
     replace e0:a'.eval (.tmp 0)=_:=e0.trans rfl
     exact wp_move (.tmp 0) rfl _ e0 ⟨_,rfl,told_of rfl,keepG [14,15] SN.loc (by omega) (by decide) hJ⟩
   | 1,ho=>
     cases ho
     exact o_nil (.tmp 22) rfl _ (hx9 (hi9 hin 0 22) rfl) ⟨_,rfl,told_of rfl,keepG [14,15] SN.loc (by omega) (by decide) hJ⟩
   | 2,ho=>
     cases ho
     exact o_fld47_9 (.tmp 23) rfl b (0) (38) rfl (hx9 (hi9 hin 1 23) rfl) ⟨_,rfl,told_of rfl,keepG [14,15] SN.loc (by omega) (by decide) hJ⟩
   | 3,ho=>
     cases ho
     exact o_load3 (.tmp 24) rfl _ _ (hx9 (hi9 hin 2 24) rfl) (fits_cell (SN.at hJ 0 _ rfl) 38 _ rfl) ⟨_,rfl,told_of rfl,keepG [14,15] SN.loc (by omega) (by decide) hJ⟩
   | 4,ho=>
     cases ho
     have e0:=ho9 hout 0
     replace e0:a'.eval (.tmp 0)=_:=e0.trans rfl
     exact wp_move (.tmp 0) rfl _ e0 ⟨_,rfl,told_of rfl,keepG [14,15] SN.loc (by omega) (by decide) hJ⟩
   | 5,ho=>
     cases ho
     exact o_nil (.tmp 26) rfl _ (hx9 (hi9 hin 4 26) rfl) ⟨_,rfl,told_of rfl,keepG [14,15] SN.loc (by omega) (by decide) hJ⟩
   | 6,ho=>
     cases ho
     exact o_fld47_10 (.tmp 27) rfl b (0) (39) rfl (hx9 (hi9 hin 5 27) rfl) ⟨_,rfl,told_of rfl,keepG [14,15] SN.loc (by omega) (by decide) hJ⟩
   | 7,ho=>
     cases ho
     exact o_load2 (.tmp 28) rfl _ _ (hx9 (hi9 hin 6 28) rfl) (fits_cell (SN.at hJ 0 _ rfl) 39 _ rfl) ⟨_,rfl,told_of rfl,keepG [14,15] SN.loc (by omega) (by decide) hJ⟩
   | 8,ho=>
     cases ho
     have e0:=ho9 hout 0
     replace e0:a'.eval (.tmp 0)=_:=e0.trans rfl
     exact wp_move (.tmp 0) rfl _ e0 ⟨_,rfl,told_of rfl,keepG [14,15] SN.loc (by omega) (by decide) hJ⟩
   | 9,ho=>
     cases ho
     exact o_nil (.tmp 30) rfl _ (hx9 (hi9 hin 8 30) rfl) ⟨_,rfl,told_of rfl,keepG [14,15] SN.loc (by omega) (by decide) hJ⟩
   | 10,ho=>
     cases ho
     exact o_fld47_6 (.tmp 31) rfl b (0) (27) rfl (hx9 (hi9 hin 9 31) rfl) ⟨_,rfl,told_of rfl,keepG [14,15] SN.loc (by omega) (by decide) hJ⟩
   | 11,ho=>
     cases ho
     exact o_fld41_0 (.tmp 32) rfl b (27) (27) rfl (hx9 (hi9 hin 10 32) rfl) ⟨_,rfl,told_of rfl,keepG [14,15] SN.loc (by omega) (by decide) hJ⟩
   | 12,ho=>
     cases ho
     exact o_load3 (.tmp 33) rfl _ _ (hx9 (hi9 hin 11 33) rfl) (fits_cell (SN.at hJ 0 _ rfl) 27 _ rfl) ⟨_,rfl,told_of rfl,keepG [14,15] SN.loc (by omega) (by decide) hJ⟩
   | 13,ho=>
     cases ho
     exact o_bob (.const (.int .i64 3)) (.tmp 25) (.tmp 29) (.tmp 34) rfl _ _ _ _ rfl (hx9 (hi9 hin 3 25) rfl) (hx9 (hi9 hin 7 29) rfl) (hx9 (hi9 hin 12 34) rfl) ⟨_,rfl,told_of rfl,keepG [14,15] SN.loc (by omega) (by decide) hJ⟩
   | 14,ho=>
     cases ho
     have e0:a'.eval (.tmp 35)=aggV (Od.C ⟨3,r.su,r.op,0,r.hn,0⟩):=hx9 (hi9 hin 13 35) rfl
     refine o_bs28 (.tmp 35) rfl _ e0 (fun W g h1 h2 h3=> ?_)
     exact⟨_,rfl,told_no rfl,nextG (by omega) (SN.make hJ hlf (ho9 hnot 15) (by decide) h1 h2 h3)⟩
   | 15,ho=>
     cases ho
     have e0:a'.eval (.tmp 36)=vs 14:=(hi9 hin 14 36).1
     exact wp_assignV (.tmp 36) rfl _ e0 ⟨_,rfl,told_no rfl,nextG (by omega) (SN.give hJ (ho9 hdep 14) (by decide))⟩
 intro l_ vs4 V4 hl hJ htold
 have t0:vs4 0=P0 b:=told_is _ (htold 0 (by decide)) rfl
 have t1:vs4 1=P0 b:=told_is _ (htold 1 (by decide)) rfl
 have t2:vs4 2= .pointer (some ⟨b,38,none⟩):=told_is _ (htold 2 (by decide)) rfl
 have t3:vs4 3= .int .i64 r.su:=told_is _ (htold 3 (by decide)) rfl
 have t4:vs4 4=P0 b:=told_is _ (htold 4 (by decide)) rfl
 have t5:vs4 5=P0 b:=told_is _ (htold 5 (by decide)) rfl
 have t6:vs4 6= .pointer (some ⟨b,39,none⟩):=told_is _ (htold 6 (by decide)) rfl
 have t7:vs4 7= .int .i64 r.op:=told_is _ (htold 7 (by decide)) rfl
 have t8:vs4 8=P0 b:=told_is _ (htold 8 (by decide)) rfl
 have t9:vs4 9=P0 b:=told_is _ (htold 9 (by decide)) rfl
 have t10:vs4 10= .pointer (some ⟨b,27,none⟩):=told_is _ (htold 10 (by decide)) rfl
 have t11:vs4 11= .pointer (some ⟨b,27,none⟩):=told_is _ (htold 11 (by decide)) rfl
 have t12:vs4 12= .int .i64 r.hn:=told_is _ (htold 12 (by decide)) rfl
 have t13:vs4 13=aggV (Od.C ⟨3,r.su,r.op,0,r.hn,0⟩):=told_is _ (htold 13 (by decide)) rfl
 rw [show (List.range 16).map vs4= [vs4 0,vs4 1,vs4 2,vs4 3,vs4 4,vs4 5,vs4 6,vs4 7,vs4 8,vs4 9,vs4 10,vs4 11,vs4 12,vs4 13,vs4 14,vs4 15] from rfl]
 simp only [t0,t1,t2,t3,t4,t5,t6,t7,t8,t9,t10,t11,t12,t13,putAll,Act.put,List.setIfInBounds_toArray,List.set_cons_succ,List.set_cons_zero]
 clear t0 t1 t2 t3 t4 t5 t6 t7 t8 t9 t10 t11 t12 t13 htold
 obtain⟨_,h2,h3⟩:=hJ
 obtain⟨g,eg,hg,hM⟩:=h2 (hl 14 (by decide))
 have e6:=h3 (hl 15 (by decide))
 rw [eg] at e6
 rw [e6,eg]
 have HM:=hide hM
 have HG:=hide hg
 clear h2 h3 hM hg e6 eg hl
 go_wp2_with fail
 go_ret
 exact⟨_,rfl,Ou.made ((unhide HM).at 1 _ rfl) (unhide HG),(unhide HM).at 0 _ rfl,(unhide HM).kept⟩
theorem on72 (r:Rk) (ln:Value) (b:Nat) (w:World) (h:Blk w b 80 (r.C ln)):Calls Try.prog 91 #[P0 b] w (RR b ln w r.on):=by
 unfold Rk.on
 by_cases h1:r.su<0
 · rw [if_pos h1];exact on_a r ln b w h h1
 · rw [if_neg h1];exact on_b r ln b w h h1
end Go.Proofs.Ytbigongmlpoahaa
