import Derived.Test.YtbigongmlpoahaaUFs
import Derived.Test.YtbigongmlpoahaaUGx
import Derived.Test.YtbigongmlpoahaaUEf
import Derived.Test.YtbigongmlpoahaaUDv
namespace Go.Proofs.Ytbigongmlpoahaa
set_option maxHeartbeats 40000000
set_option maxRecDepth 100000
set_option linter.unusedSimpArgs false
open Go.RowKit
theorem sameBook14 (B:Bo) (xv yv zv xu yu zu:Value) (w:World) (h:Bs w B xv yv zv) (k:Bs w B xu yu zu) (h1:B.sh.length≤1000) (h2:B.pa.length≤1000) (h3:B.ln.length≤1000):Calls Try.prog 12 #[aggV (B.C xv yv zv),aggV (B.C xu yu zu)] w fun e w'=>e= .returned (.bool true)∧Kept [] w w':=by
 obtain⟨x,cx,rfl,_,_⟩:=h.sh.sl
 obtain⟨y,cy,rfl,_,_⟩:=h.pa.sl
 obtain⟨z,cz,rfl,_,_⟩:=h.ln.sl
 obtain⟨x1,cx1,rfl,_,_⟩:=k.sh.sl
 obtain⟨y1,cy1,rfl,_,_⟩:=k.pa.sl
 obtain⟨z1,cz1,rfl,_,_⟩:=k.ln.sl
 have H1:=hide h
 have H2:=hide k
 clear h k
 have M:Hid (Mm [] w w []):=hide Mm.init
 go_enter Try.func12,Try.ntmps12
 go_wp2_with (first |(refine wpBoxV rfl (.tmp 0) rfl (B.C (.slice x B.sh.length cx) (.slice y B.pa.length cy) (.slice z B.ln.length cz)) rfl ?_;intro W1 b1 e1 B1 K1;replace M:=hide ((unhide M).new e1 B1 K1);clear e1 B1 K1;refine Stp.go ?_))
 constructor
 go_wp2_with (first |(refine wpBoxV rfl (.tmp 1) rfl (B.C (.slice x1 B.sh.length cx1) (.slice y1 B.pa.length cy1) (.slice z1 B.ln.length cz1)) rfl ?_;intro W2 b2 e2 B2 K2;replace M:=hide ((unhide M).new e2 B2 K2);clear e2 B2 K2;refine Stp.go ?_))
 constructor
 go_upto_region 1 with fail
 refine wp_text_tq 65 rfl (by kernel_rfl) [some (P0 b1),some (.int .i64 B.ex),some (P0 b2),some (.int .i64 B.ex),some (.bool false),some (.bool false),some (.pointer (some ⟨b1,1,none⟩)),some (.int .i64 B.ow),some (.pointer (some ⟨b2,1,none⟩)),some (.int .i64 B.ow),some (.bool false),some (.bool false),some (.bool false),some (.pointer (some ⟨b1,2,none⟩)),some (.slice x B.sh.length cx),some (.pointer (some ⟨b2,2,none⟩)),some (.slice x1 B.sh.length cx1),some (.bool true),some (.bool false),some (.bool false),some (.bool false),some (.pointer (some ⟨b1,3,none⟩)),some (.slice y B.pa.length cy),some (.pointer (some ⟨b2,3,none⟩)),some (.slice y1 B.pa.length cy1),some (.bool true),some (.bool false),some (.bool false),some (.bool false),some (.pointer (some ⟨b1,4,none⟩)),some (aggV (i8 B.ops)),some (.pointer (some ⟨b2,4,none⟩)),some (aggV (i8 B.ops)),some (.bool false),some (.bool false),some (.bool false),some (.pointer (some ⟨b1,12,none⟩)),some (.slice z B.ln.length cz),some (.int .i64 B.ln.length),some (.pointer (some ⟨b2,12,none⟩)),some (.slice z1 B.ln.length cz1),some (.int .i64 B.ln.length),some (.bool false),some (.bool false),some (.bool false),some (.pointer (some ⟨b1,13,none⟩)),some (aggV (Wi.C ⟨B.hn,B.hk⟩)),some (.pointer (some ⟨b2,13,none⟩)),some (aggV (Wi.C ⟨B.hn,B.hk⟩)),some (.bool false),some (.bool false),some (.bool false),some (.pointer (some ⟨b1,15,none⟩)),some (.bool B.bz),some (.pointer (some ⟨b2,15,none⟩)),some (.bool B.bz),some (.bool false),some (.bool false),some (.bool false),some (.pointer (some ⟨b1,16,none⟩)),some (.int .i64 B.op),some (.pointer (some ⟨b2,16,none⟩)),some (.int .i64 B.op),some (.bool false),some (.bool false)] rfl (by kernel_rfl) (by kernel_rfl) ?_ ?_
 · intro i o' hi hsk ho a' w2 hout hin hk2
   replace hk2:Kept [] W2 w2:=hk2
   match i,ho,hsk with
   | 0,ho,hsk=>
     cases ho
     exact o_fld43_0 (.tmp 2) rfl b1 (0) (0) rfl ((ho9 hout 2).trans rfl) (tE rfl)
   | 1,ho,hsk=>
     cases ho
     exact o_load3 (.tmp 6) rfl _ _ (is_tq (hi9 hin 0 6) rfl) (fits_cell (((unhide M).step hk2).at 0 _ rfl) 0 _ rfl) (tE rfl)
   | 2,ho,hsk=>
     cases ho
     exact o_fld43_0 (.tmp 3) rfl b2 (0) (0) rfl ((ho9 hout 3).trans rfl) (tE rfl)
   | 3,ho,hsk=>
     cases ho
     exact o_load3 (.tmp 8) rfl _ _ (is_tq (hi9 hin 2 8) rfl) (fits_cell (((unhide M).step hk2).at 1 _ rfl) 0 _ rfl) (tE rfl)
   | 4,ho,hsk=>
     cases ho
     exact c_neq3 (.tmp 7) (.tmp 9) rfl _ _ (true) (decide_eq_true rfl) (is_tq (hi9 hin 1 7) rfl) (is_tq (hi9 hin 3 9) rfl) (tE rfl)
   | 5,ho,hsk=>
     cases ho
     exact wp_move (.tmp 10) rfl _ (is_tq (hi9 hin 4 10) rfl) (tE rfl)
   | 6,ho,hsk=>
     cases ho
     exact o_fld43_1 (.tmp 2) rfl b1 (0) (1) rfl ((ho9 hout 2).trans rfl) (tE rfl)
   | 7,ho,hsk=>
     cases ho
     exact o_load3 (.tmp 12) rfl _ _ (is_tq (hi9 hin 6 12) rfl) (fits_cell (((unhide M).step hk2).at 0 _ rfl) 1 _ rfl) (tE rfl)
   | 8,ho,hsk=>
     cases ho
     exact o_fld43_1 (.tmp 3) rfl b2 (0) (1) rfl ((ho9 hout 3).trans rfl) (tE rfl)
   | 9,ho,hsk=>
     cases ho
     exact o_load3 (.tmp 14) rfl _ _ (is_tq (hi9 hin 8 14) rfl) (fits_cell (((unhide M).step hk2).at 1 _ rfl) 1 _ rfl) (tE rfl)
   | 10,ho,hsk=>
     cases ho
     exact c_neq3 (.tmp 13) (.tmp 15) rfl _ _ (true) (decide_eq_true rfl) (is_tq (hi9 hin 7 13) rfl) (is_tq (hi9 hin 9 15) rfl) (tE rfl)
   | 11,ho,hsk=>
     cases ho
     exact o_pickOr0 (.tmp 11) (.tmp 16) rfl _ (is_tq (hi9 hin 5 11) rfl) (is_tq (hi9 hin 10 16) rfl) (tE rfl)
   | 12,ho,hsk=>
     cases ho
     exact wp_move (.tmp 17) rfl _ (is_tq (hi9 hin 11 17) rfl) (tE rfl)
   | 13,ho,hsk=>
     cases ho
     exact o_fld43_2 (.tmp 2) rfl b1 (0) (2) rfl ((ho9 hout 2).trans rfl) (tE rfl)
   | 14,ho,hsk=>
     cases ho
     exact o_load36 (.tmp 19) rfl _ _ (is_tq (hi9 hin 13 19) rfl) (fits_cell (((unhide M).step hk2).at 0 _ rfl) 2 _ rfl) (tE rfl)
   | 15,ho,hsk=>
     cases ho
     exact o_fld43_2 (.tmp 3) rfl b2 (0) (2) rfl ((ho9 hout 3).trans rfl) (tE rfl)
   | 16,ho,hsk=>
     cases ho
     exact o_load36 (.tmp 21) rfl _ _ (is_tq (hi9 hin 15 21) rfl) (fits_cell (((unhide M).step hk2).at 1 _ rfl) 2 _ rfl) (tE rfl)
   | 17,ho,hsk=>
     cases ho
     have e0:a'.eval (.tmp 20)= .slice x B.sh.length cx:=is_tq (hi9 hin 14 20) rfl
     have e1:a'.eval (.tmp 22)= .slice x1 B.sh.length cx1:=is_tq (hi9 hin 16 22) rfl
     refine wp_callF 37 _ _ rfl #[.slice x B.sh.length cx,.slice x1 B.sh.length cx1] (by simp [e0,e1]) (cg39 _ _) ((ints39 _ _ _ _ ((unhide H1).kept ((unhide M).kept.trans hk2)).sh ((unhide H2).kept ((unhide M).kept.trans hk2)).sh (by omega)).mono ?_)
     rintro e w3 ⟨rfl,hk3⟩
     exact⟨_,rfl,_,rfl,tq_is _ _ _ _ rfl,hk3,fun _ _ _ _ _=>trivial⟩
   | 18,ho,hsk=>
     cases ho
     exact o_not (.tmp 23) rfl (true) (is_tq (hi9 hin 17 23) rfl) (tE rfl)
   | 19,ho,hsk=>
     cases ho
     exact o_pickOr0 (.tmp 18) (.tmp 24) rfl _ (is_tq (hi9 hin 12 18) rfl) (is_tq (hi9 hin 18 24) rfl) (tE rfl)
   | 20,ho,hsk=>
     cases ho
     exact wp_move (.tmp 25) rfl _ (is_tq (hi9 hin 19 25) rfl) (tE rfl)
   | 21,ho,hsk=>
     cases ho
     exact o_fld43_3 (.tmp 2) rfl b1 (0) (3) rfl ((ho9 hout 2).trans rfl) (tE rfl)
   | 22,ho,hsk=>
     cases ho
     exact o_load36 (.tmp 27) rfl _ _ (is_tq (hi9 hin 21 27) rfl) (fits_cell (((unhide M).step hk2).at 0 _ rfl) 3 _ rfl) (tE rfl)
   | 23,ho,hsk=>
     cases ho
     exact o_fld43_3 (.tmp 3) rfl b2 (0) (3) rfl ((ho9 hout 3).trans rfl) (tE rfl)
   | 24,ho,hsk=>
     cases ho
     exact o_load36 (.tmp 29) rfl _ _ (is_tq (hi9 hin 23 29) rfl) (fits_cell (((unhide M).step hk2).at 1 _ rfl) 3 _ rfl) (tE rfl)
   | 25,ho,hsk=>
     cases ho
     have e0:a'.eval (.tmp 28)= .slice y B.pa.length cy:=is_tq (hi9 hin 22 28) rfl
     have e1:a'.eval (.tmp 30)= .slice y1 B.pa.length cy1:=is_tq (hi9 hin 24 30) rfl
     refine wp_callF 37 _ _ rfl #[.slice y B.pa.length cy,.slice y1 B.pa.length cy1] (by simp [e0,e1]) (cg39 _ _) ((ints39 _ _ _ _ ((unhide H1).kept ((unhide M).kept.trans hk2)).pa ((unhide H2).kept ((unhide M).kept.trans hk2)).pa (by omega)).mono ?_)
     rintro e w3 ⟨rfl,hk3⟩
     exact⟨_,rfl,_,rfl,tq_is _ _ _ _ rfl,hk3,fun _ _ _ _ _=>trivial⟩
   | 26,ho,hsk=>
     cases ho
     exact o_not (.tmp 31) rfl (true) (is_tq (hi9 hin 25 31) rfl) (tE rfl)
   | 27,ho,hsk=>
     cases ho
     exact o_pickOr0 (.tmp 26) (.tmp 32) rfl _ (is_tq (hi9 hin 20 26) rfl) (is_tq (hi9 hin 26 32) rfl) (tE rfl)
   | 28,ho,hsk=>
     cases ho
     exact wp_move (.tmp 33) rfl _ (is_tq (hi9 hin 27 33) rfl) (tE rfl)
   | 29,ho,hsk=>
     cases ho
     exact o_fld43_4 (.tmp 2) rfl b1 (0) (4) rfl ((ho9 hout 2).trans rfl) (tE rfl)
   | 30,ho,hsk=>
     cases ho
     exact wp_loadA row37 (.tmp 35) rfl b1 (4) (is_tq (hi9 hin 29 35) rfl) (i8 B.ops) rfl ((show Blk _ b1 40 (B.C (.slice x B.sh.length cx) (.slice y B.pa.length cy) (.slice z B.ln.length cz)) from(((unhide M).step hk2).at 0 _ rfl)).boOps) (tE rfl)
   | 31,ho,hsk=>
     cases ho
     exact o_fld43_4 (.tmp 3) rfl b2 (0) (4) rfl ((ho9 hout 3).trans rfl) (tE rfl)
   | 32,ho,hsk=>
     cases ho
     exact wp_loadA row37 (.tmp 37) rfl b2 (4) (is_tq (hi9 hin 31 37) rfl) (i8 B.ops) rfl ((show Blk _ b2 40 (B.C (.slice x1 B.sh.length cx1) (.slice y1 B.pa.length cy1) (.slice z1 B.ln.length cz1)) from(((unhide M).step hk2).at 1 _ rfl)).boOps) (tE rfl)
   | 33,ho,hsk=>
     cases ho
     exact o_neqA 34 34 guard37 (.tmp 36) (.tmp 38) rfl (i8 B.ops) (i8 B.ops) (is_tq (hi9 hin 30 36) rfl) (is_tq (hi9 hin 32 38) rfl) true ((eqA37 _ _ _).trans (by rw [like_self])) (tE rfl)
   | 34,ho,hsk=>
     cases ho
     exact o_pickOr0 (.tmp 34) (.tmp 39) rfl _ (is_tq (hi9 hin 28 34) rfl) (is_tq (hi9 hin 33 39) rfl) (tE rfl)
   | 35,ho,hsk=>
     cases ho
     exact wp_move (.tmp 40) rfl _ (is_tq (hi9 hin 34 40) rfl) (tE rfl)
   | 36,ho,hsk=>
     cases ho
     exact o_fld43_5 (.tmp 2) rfl b1 (0) (12) rfl ((ho9 hout 2).trans rfl) (tE rfl)
   | 37,ho,hsk=>
     cases ho
     exact o_load38 (.tmp 42) rfl _ _ (is_tq (hi9 hin 36 42) rfl) (fits_cell (((unhide M).step hk2).at 0 _ rfl) 12 _ rfl) (tE rfl)
   | 38,ho,hsk=>
     cases ho
     exact o_len38 (.tmp 43) rfl _ _ _ (is_tq (hi9 hin 37 43) rfl) (((unhide H1).kept ((unhide M).kept.trans hk2)).ln) (tE rfl)
   | 39,ho,hsk=>
     cases ho
     exact o_fld43_5 (.tmp 3) rfl b2 (0) (12) rfl ((ho9 hout 3).trans rfl) (tE rfl)
   | 40,ho,hsk=>
     cases ho
     exact o_load38 (.tmp 45) rfl _ _ (is_tq (hi9 hin 39 45) rfl) (fits_cell (((unhide M).step hk2).at 1 _ rfl) 12 _ rfl) (tE rfl)
   | 41,ho,hsk=>
     cases ho
     exact o_len38 (.tmp 46) rfl _ _ _ (is_tq (hi9 hin 40 46) rfl) (((unhide H2).kept ((unhide M).kept.trans hk2)).ln) (tE rfl)
   | 42,ho,hsk=>
     cases ho
     exact c_neq3 (.tmp 44) (.tmp 47) rfl _ _ (true) (decide_eq_true rfl) (is_tq (hi9 hin 38 44) rfl) (is_tq (hi9 hin 41 47) rfl) (tE rfl)
   | 43,ho,hsk=>
     cases ho
     exact o_pickOr0 (.tmp 41) (.tmp 48) rfl _ (is_tq (hi9 hin 35 41) rfl) (is_tq (hi9 hin 42 48) rfl) (tE rfl)
   | 44,ho,hsk=>
     cases ho
     exact wp_move (.tmp 49) rfl _ (is_tq (hi9 hin 43 49) rfl) (tE rfl)
   | 45,ho,hsk=>
     cases ho
     exact o_fld43_6 (.tmp 2) rfl b1 (0) (13) rfl ((ho9 hout 2).trans rfl) (tE rfl)
   | 46,ho,hsk=>
     cases ho
     exact wp_loadA row41 (.tmp 51) rfl b1 (13) (is_tq (hi9 hin 45 51) rfl) (Wi.C ⟨B.hn,B.hk⟩) rfl ((show Blk _ b1 40 (B.C (.slice x B.sh.length cx) (.slice y B.pa.length cy) (.slice z B.ln.length cz)) from(((unhide M).step hk2).at 0 _ rfl)).boHand) (tE rfl)
   | 47,ho,hsk=>
     cases ho
     exact o_fld43_6 (.tmp 3) rfl b2 (0) (13) rfl ((ho9 hout 3).trans rfl) (tE rfl)
   | 48,ho,hsk=>
     cases ho
     exact wp_loadA row41 (.tmp 53) rfl b2 (13) (is_tq (hi9 hin 47 53) rfl) (Wi.C ⟨B.hn,B.hk⟩) rfl ((show Blk _ b2 40 (B.C (.slice x1 B.sh.length cx1) (.slice y1 B.pa.length cy1) (.slice z1 B.ln.length cz1)) from(((unhide M).step hk2).at 1 _ rfl)).boHand) (tE rfl)
   | 49,ho,hsk=>
     cases ho
     exact o_neqA 38 38 guard41 (.tmp 52) (.tmp 54) rfl (Wi.C ⟨B.hn,B.hk⟩) (Wi.C ⟨B.hn,B.hk⟩) (is_tq (hi9 hin 46 52) rfl) (is_tq (hi9 hin 48 54) rfl) true ((eqW41 _ _ _).trans (by simp)) (tE rfl)
   | 50,ho,hsk=>
     cases ho
     exact o_pickOr0 (.tmp 50) (.tmp 55) rfl _ (is_tq (hi9 hin 44 50) rfl) (is_tq (hi9 hin 49 55) rfl) (tE rfl)
   | 51,ho,hsk=>
     cases ho
     exact wp_move (.tmp 56) rfl _ (is_tq (hi9 hin 50 56) rfl) (tE rfl)
   | 52,ho,hsk=>
     cases ho
     exact o_fld43_7 (.tmp 2) rfl b1 (0) (15) rfl ((ho9 hout 2).trans rfl) (tE rfl)
   | 53,ho,hsk=>
     cases ho
     exact o_load4 (.tmp 58) rfl _ _ (is_tq (hi9 hin 52 58) rfl) (fits_cell (((unhide M).step hk2).at 0 _ rfl) 15 _ rfl) (tE rfl)
   | 54,ho,hsk=>
     cases ho
     exact o_fld43_7 (.tmp 3) rfl b2 (0) (15) rfl ((ho9 hout 3).trans rfl) (tE rfl)
   | 55,ho,hsk=>
     cases ho
     exact o_load4 (.tmp 60) rfl _ _ (is_tq (hi9 hin 54 60) rfl) (fits_cell (((unhide M).step hk2).at 1 _ rfl) 15 _ rfl) (tE rfl)
   | 56,ho,hsk=>
     cases ho
     exact c_neq4 (.tmp 59) (.tmp 61) rfl B.bz (is_tq (hi9 hin 53 59) rfl) (is_tq (hi9 hin 55 61) rfl) (tE rfl)
   | 57,ho,hsk=>
     cases ho
     exact o_pickOr0 (.tmp 57) (.tmp 62) rfl _ (is_tq (hi9 hin 51 57) rfl) (is_tq (hi9 hin 56 62) rfl) (tE rfl)
   | 58,ho,hsk=>
     cases ho
     exact wp_move (.tmp 63) rfl _ (is_tq (hi9 hin 57 63) rfl) (tE rfl)
   | 59,ho,hsk=>
     cases ho
     exact o_fld43_8 (.tmp 2) rfl b1 (0) (16) rfl ((ho9 hout 2).trans rfl) (tE rfl)
   | 60,ho,hsk=>
     cases ho
     exact o_load2 (.tmp 65) rfl _ _ (is_tq (hi9 hin 59 65) rfl) (fits_cell (((unhide M).step hk2).at 0 _ rfl) 16 _ rfl) (tE rfl)
   | 61,ho,hsk=>
     cases ho
     exact o_fld43_8 (.tmp 3) rfl b2 (0) (16) rfl ((ho9 hout 3).trans rfl) (tE rfl)
   | 62,ho,hsk=>
     cases ho
     exact o_load2 (.tmp 67) rfl _ _ (is_tq (hi9 hin 61 67) rfl) (fits_cell (((unhide M).step hk2).at 1 _ rfl) 16 _ rfl) (tE rfl)
   | 63,ho,hsk=>
     cases ho
     exact c_neq2 (.tmp 66) (.tmp 68) rfl _ _ (true) (decide_eq_true rfl) (is_tq (hi9 hin 60 66) rfl) (is_tq (hi9 hin 62 68) rfl) (tE rfl)
   | 64,ho,hsk=>
     cases ho
     exact o_pickOr0 (.tmp 64) (.tmp 69) rfl _ (is_tq (hi9 hin 58 64) rfl) (is_tq (hi9 hin 63 69) rfl) (tE rfl)
 intro w9 hk9
 replace hk9:Kept [] W2 w9:=hk9
 generalize hA:putAll _ _ _=A
 have E:A=⟨#[aggV (B.C (.slice x B.sh.length cx) (.slice y B.pa.length cy) (.slice z B.ln.length cz)),aggV (B.C (.slice x1 B.sh.length cx1) (.slice y1 B.pa.length cy1) (.slice z1 B.ln.length cz1)),P0 b1,P0 b2,.bool false,undef,P0 b1,.int .i64 B.ex,P0 b2,.int .i64 B.ex,.bool false,.bool false,.pointer (some ⟨b1,1,none⟩),.int .i64 B.ow,.pointer (some ⟨b2,1,none⟩),.int .i64 B.ow,.bool false,.bool false,.bool false,.pointer (some ⟨b1,2,none⟩),.slice x B.sh.length cx,.pointer (some ⟨b2,2,none⟩),.slice x1 B.sh.length cx1,.bool true,.bool false,.bool false,.bool false,.pointer (some ⟨b1,3,none⟩),.slice y B.pa.length cy,.pointer (some ⟨b2,3,none⟩),.slice y1 B.pa.length cy1,.bool true,.bool false,.bool false,.bool false,.pointer (some ⟨b1,4,none⟩),aggV (i8 B.ops),.pointer (some ⟨b2,4,none⟩),aggV (i8 B.ops),.bool false,.bool false,.bool false,.pointer (some ⟨b1,12,none⟩),.slice z B.ln.length cz,.int .i64 B.ln.length,.pointer (some ⟨b2,12,none⟩),.slice z1 B.ln.length cz1,.int .i64 B.ln.length,.bool false,.bool false,.bool false,.pointer (some ⟨b1,13,none⟩),aggV (Wi.C ⟨B.hn,B.hk⟩),.pointer (some ⟨b2,13,none⟩),aggV (Wi.C ⟨B.hn,B.hk⟩),.bool false,.bool false,.bool false,.pointer (some ⟨b1,15,none⟩),.bool B.bz,.pointer (some ⟨b2,15,none⟩),.bool B.bz,.bool false,.bool false,.bool false,.pointer (some ⟨b1,16,none⟩),.int .i64 B.op,.pointer (some ⟨b2,16,none⟩),.int .i64 B.op,.bool false,.bool false,undef,undef,undef,undef,undef,undef,undef,undef,undef,undef,undef,undef,undef,undef,undef,undef,undef,undef],[]⟩:=by rw [← hA];kernel_rfl
 subst E
 clear hA
 replace M:=hide ((unhide M).step hk9)
 clear hk9
 go_wp2_with fail
 go_loopw [5] (fun i wr=>∃j:Nat,j≤B.ln.length∧i= .int .i64 j∧Hid (Mm [] w wr [(b1,40,B.C (.slice x B.sh.length cx) (.slice y B.pa.length cy) (.slice z B.ln.length cz)),(b2,40,B.C (.slice x1 B.sh.length cx1) (.slice y1 B.pa.length cy1) (.slice z1 B.ln.length cz1))])) (fun i _=>B.ln.length-(intOf i).toNat)
 case atStart=>exact ⟨0,by omega,rfl,M⟩
 case round=>
   obtain⟨j,hj,rfl,MR⟩:=hrel
   clear M
   have c12:=fits_cell ((unhide MR).at 0 _ rfl) 12 _ rfl
   replace c12:wr.cell? ⟨b1,12,none⟩=some (.slice z B.ln.length cz):=c12
   by_cases hlt:j<B.ln.length
   · have hjI:(j:Int)<B.ln.length:=by omega
     have hd:decide ((j:Int)<B.ln.length)=true:=by simpa using hjI
     obtain⟨x9,hx⟩:∃x,B.ln[j]?=some x:=⟨_,List.getElem?_eq_getElem hlt⟩
     obtain⟨g,off,c',e,hr⟩:=Ws.get ((unhide H1).kept (unhide MR).kept).ln hx
     cases e
     obtain⟨q,oq,d',e,hq⟩:=Ws.get ((unhide H2).kept (unhide MR).kept).ln hx
     cases e
     clear hx
     go_wp2_with fail
     clear c12
     refine wp_region_any mixed (wpAny_tq 11 rfl (by kernel_rfl) [some (.pointer (some ⟨b1,12,none⟩)),some (.slice (some ⟨g,off,none⟩) B.ln.length cz),some (.int .i64 j),some (.pointer (some ⟨g,off+j*2,none⟩)),some (aggV x9.C),some (.pointer (some ⟨b2,12,none⟩)),some (.slice (some ⟨q,oq,none⟩) B.ln.length cz1),some (.int .i64 j),some (.pointer (some ⟨q,oq+j*2,none⟩)),some (aggV x9.C),some (.bool false)] rfl (by kernel_rfl) (by kernel_rfl) ?_ ?_)
     · intro i o' hi hsk ho a' w2 hout hin hk2
       replace hk2:Kept [] wr w2:=ud hk2
       match i,ho,hsk with
       | 0,ho,hsk=>
         cases ho
         exact o_fld43_5 (.tmp 2) rfl b1 (0) (12) rfl ((ho9 hout 2).trans rfl) (tE rfl)
       | 1,ho,hsk=>
         cases ho
         exact o_load38 (.tmp 78) rfl _ _ (is_tq (hi9 hin 0 78) rfl) (fits_cell (((unhide MR).step hk2).at 0 _ rfl) 12 _ rfl) (tE rfl)
       | 2,ho,hsk=>
         cases ho
         exact wp_move (.tmp 5) rfl _ ((ho9 hout 5).trans rfl) (tE rfl)
       | 3,ho,hsk=>
         cases ho
         exact o_idx38n (.tmp 79) (.tmp 80) rfl g off B.ln.length cz j hlt (is_tq (hi9 hin 1 79) rfl) (is_tq (hi9 hin 2 80) rfl) (tE rfl)
       | 4,ho,hsk=>
         cases ho
         exact wp_loadA row41 (.tmp 81) rfl g (off+j*2) (is_tq (hi9 hin 3 81) rfl) (x9.C) rfl (fun k u hu=>hk2.cell (hr k u hu) (by simp)) (tE rfl)
       | 5,ho,hsk=>
         cases ho
         exact o_fld43_5 (.tmp 3) rfl b2 (0) (12) rfl ((ho9 hout 3).trans rfl) (tE rfl)
       | 6,ho,hsk=>
         cases ho
         exact o_load38 (.tmp 83) rfl _ _ (is_tq (hi9 hin 5 83) rfl) (fits_cell (((unhide MR).step hk2).at 1 _ rfl) 12 _ rfl) (tE rfl)
       | 7,ho,hsk=>
         cases ho
         exact wp_move (.tmp 5) rfl _ ((ho9 hout 5).trans rfl) (tE rfl)
       | 8,ho,hsk=>
         cases ho
         exact o_idx38n (.tmp 84) (.tmp 85) rfl q oq B.ln.length cz1 j hlt (is_tq (hi9 hin 6 84) rfl) (is_tq (hi9 hin 7 85) rfl) (tE rfl)
       | 9,ho,hsk=>
         cases ho
         exact wp_loadA row41 (.tmp 86) rfl q (oq+j*2) (is_tq (hi9 hin 8 86) rfl) (x9.C) rfl (fun k u hu=>hk2.cell (hq k u hu) (by simp)) (tE rfl)
       | 10,ho,hsk=>
         cases ho
         exact o_neqA 38 38 guard41 (.tmp 82) (.tmp 87) rfl (x9.C) (x9.C) (is_tq (hi9 hin 4 82) rfl) (is_tq (hi9 hin 9 87) rfl) true ((eqW41 _ _ _).trans (by simp)) (tE rfl)
     intro w9 hk9
     replace hk9:Kept [] wr w9:=ud hk9
     simp only [valsQ,List.map_cons,List.map_nil,Option.getD_some,List.take_succ_cons,List.take_zero,putAll,Act.put,List.setIfInBounds_toArray,List.set_cons_succ,List.set_cons_zero]
     refine wpAny_done (by kernel_rfl) ?_ _
     go_wp2_with fail
     go_roundw
     case rel=>exact ⟨j+1,by omega,by go_num,hide ((unhide MR).step hk9)⟩
     case measure=>simp [intOf];omega
   · have hd:decide ((j:Int)<B.ln.length)=false:=by simp;omega
     go_wp2_with fail
     go_ret
     exact⟨rfl,(unhide MR).kept⟩
end Go.Proofs.Ytbigongmlpoahaa
namespace Go.Proofs.Ytbigongmlpoahaa
set_option maxRecDepth 100000
set_option linter.unusedSimpArgs false
open Go.RowKit
def gOk (ops:Array Oper) (us:List (Option Value)) (o:Oper):Bool:=match o.guard with
 | none=>true
 | some (i,b)=>o.after.any (fun e=>Region.binds .any e&&e.on == i)&&(match us[i]? with | some (some (.bool c))=>c == b | _=>false)&&(match ops[i]? with | some p=>p.dst.isSome | none=>false)
def okZ (ops:Array Oper) (us:List (Option Value)):Bool:=(List.range ops.size).all (fun j=>match ops[j]? with
 | none=>false
 | some o=>gOk ops us o&&o.after.all (fun e=> !Region.binds .any e||decide (e.on<j))&&(List.range j).all (fun i=>match ops[i]? with
   | none=>false
   | some p=>p.dst.isNone||p.dst !=o.dst))
structure OkZ (ops:Array Oper) (us:List (Option Value)):Prop where
 guard:∀(j:Nat) (o:Oper),ops[j]?=some o→gOk ops us o=true
 back:∀(j:Nat) (o:Oper),ops[j]?=some o→∀e∈o.after,Region.binds .any e=true→e.on<j
 apart:∀(i j:Nat) (p o:Oper) (t:Nat),i<j→ops[i]?=some p→ops[j]?=some o→p.dst=some t→o.dst≠some t
theorem okZ_spec {ops:Array Oper} {us:List (Option Value)} (h:okZ ops us=true):OkZ ops us:=by
 have hj:∀(j:Nat) (o:Oper),ops[j]?=some o→_:=fun j o ho=>(List.all_eq_true.1 h) j (List.mem_range.2 (Array.getElem?_eq_some_iff.1 ho).1)
 refine⟨?_,?_,?_⟩
 · intro j o ho
   have:=hj j o ho
   simp only [ho,Bool.and_eq_true] at this
   exact this.1.1
 · intro j o ho e he hb
   have:=hj j o ho
   simp only [ho,Bool.and_eq_true] at this
   have:=(Array.all_eq_true_iff_forall_mem.1 this.1.2) e he
   rw [hb] at this
   simpa using this
 · intro i j p o t hij hp ho hpt hot
   have:=hj j o ho
   simp only [ho,Bool.and_eq_true] at this
   have:=(List.all_eq_true.1 this.2) i (List.mem_range.2 hij)
   rw [hp] at this
   simp [hpt,hot] at this
theorem wpAny_gz {ops:Array Oper} {Q:Exit→Act→World→Prop} {a0:Act} {w0:World} (n:Nat) (hn:ops.size=n) (us:List (Option Value)) (hok:okZ ops us=true) (hu:us.length=n)
   (hsl:ops.all (fun o=>match o.dst with | none=>true | some t=>decide (t<a0.tmps.size))=true) (J:Array Bool→(Nat→Value)→World→Prop) (hJ0:J (Array.replicate n false) (fun _=>undef) w0)
   (hop:∀(j:Nat) (o:Oper),j<n→ops[j]?=some o→∀a w l vs,l.size=n→l.getD j false=false→J l vs w→(∀t:Nat,ops.toList.all (fun p=>p.dst !=some t||p.after.any (fun e=>Region.binds .any e&&e.on == j))=true→a.eval (.tmp t)=a0.eval (.tmp t))→
     (∀(i t:Nat),o.after.any (fun e=>Region.binds .any e&&e.on == i)=true→ops[i]?.bind (·.dst)=some t→a.eval (.tmp t)=vs i∧told us i (vs i))→(∀i:Nat,o.after.any (fun e=>Region.binds .any e&&e.on == i)=true→l.getD i false=true)→(∀(i:Nat),(match ops[i]? with | none=>false | some p=>reaches ops j 8 p)=true→l.getD i false=false)→
     o.wp Try.prog a w (fun a' w'=>∃v,a'=a.put o.dst v∧told us j v∧J (l.setIfInBounds j true) (fun i=>if i=j then v else vs i) w') Q)
   (hQ:∀l vs w,(∀j,j<n→l.getD j false=true)→J l vs w→(∀j,j<n→told us j (vs j))→Q .normal (putAll a0 ops.toList ((List.range n).map vs)) w):
   wpAny Try.prog .any ops Q n (Array.replicate n false) a0 w0:=by
 subst hn
 have K:=okZ_spec hok
 have hsl':∀o∈ops,∀t,o.dst=some t→t<a0.tmps.size:=by
   intro o ho t ht
   have:=(Array.all_eq_true_iff_forall_mem.1 hsl) o ho
   rw [ht] at this
   simpa using this
 let I:Array Bool→Act→World→Prop:=fun l a w=>l.size=ops.size∧a.defers=a0.defers∧a.tmps.size=a0.tmps.size∧(∀t,(∀(i:Nat) (p:Oper),ops[i]?=some p→p.dst=some t→l.getD i false=false)→a.tmps[t]?=a0.tmps[t]?)∧(∀(i:Nat) (p:Oper),ops[i]?=some p→l.getD i false=true→∀e∈p.after,Region.binds .any e=true→l.getD e.on false=true)∧
   ∃vs:Nat→Value,(∀(j:Nat) (o:Oper) (t:Nat),ops[j]?=some o→o.dst=some t→l.getD j false=true→a.tmps[t]?=some (vs j))∧(∀j:Nat,l.getD j false=true→told us j (vs j))∧J l vs w
 have hrep:∀j,(Array.replicate ops.size false).getD j false=false:=by
   intro j
   rw [Array.getD_eq_getD_getElem?,Array.getElem?_replicate]
   split <;> rfl
 refine wpAny_inv I ?_ ?_ ops.size _ a0 w0 ⟨by simp,rfl,rfl,fun _ _=>rfl,(fun i p _ hl=>by rw [hrep] at hl;cases hl),fun _=>undef,(fun j o t ho ht hl=>by rw [hrep] at hl;cases hl),(fun j hl=>by rw [hrep] at hl;cases hl),hJ0⟩ (by simp)
 · rintro l a w ⟨i1,i2,i3,i4,i8,vs,i5,i7,i6⟩ j hj
   obtain⟨hjl,o,ho,hdeps⟩:=mem_ready.1 hj
   have hjs:j<ops.size:=(Array.getElem?_eq_some_iff.1 ho).1
   have hjf:l.getD j false=false:=by
     simp only [Array.getD_eq_getD_getElem?] at hjl⊢
     rw [Array.getElem?_eq_getElem (by omega)] at hjl⊢
     simpa using hjl
   have hdep:∀i:Nat,o.after.any (fun e=>Region.binds .any e&&e.on == i)=true→l.getD i false=true:=by
     intro i hi
     obtain⟨k,hk,hb⟩:=Array.any_eq_true.1 hi
     have he:=Array.getElem_mem hk
     obtain⟨e,hee⟩:∃e,o.after[k]=e:=⟨_,rfl⟩
     rw [hee] at hb he
     simp only [Bool.and_eq_true,beq_iff_eq] at hb
     have:=hdeps e he hb.1
     rwa [hb.2] at this
   have hin:∀(i s:Nat),o.after.any (fun e=>Region.binds .any e&&e.on == i)=true→ops[i]?.bind (·.dst)=some s→a.eval (.tmp s)=vs i∧told us i (vs i):=by
     intro i s hi hs
     cases hq:ops[i]? with
     | none=>rw [hq] at hs;cases hs
     | some p=>
       rw [hq] at hs
       have hv:=i5 i p s hq hs (hdep i hi)
       exact⟨by simp [Act.eval,Array.getD_eq_getD_getElem?,hv],i7 i (hdep i hi)⟩
   have next:∀v w',told us j v→J (l.setIfInBounds j true) (fun i=>if i=j then v else vs i) w'→I (l.setIfInBounds j true) (a.put o.dst v) w':=by
     intro v w' hv hJ
     refine⟨by simp [i1],by rw [put_defers];exact i2,by rw [put_size];exact i3,?_,?_,_,?_,?_,hJ⟩
     · intro s hs
       have hns:o.dst≠some s:=by
         intro e
         have:=hs j o ho e
         rw [getD_setD (by omega),if_pos rfl] at this
         cases this
       rw [put_other _ _ _ _ hns]
       refine i4 s fun i p hp hd=> ?_
       have:=hs i p hp hd
       rw [getD_setD (by omega)] at this
       split at this
       · cases this
       · exact this
     · intro i p hp hl e he hb
       rw [getD_setD (by omega)] at hl⊢
       by_cases hij:i=j
       · subst hij
         rw [ho] at hp;cases hp
         rw [hdeps e he hb]
         split <;> rfl
       · rw [if_neg hij] at hl
         rw [i8 i p hp hl e he hb]
         split <;> rfl
     · intro i p s hp hs hl
       rw [getD_setD (by omega)] at hl
       by_cases hij:i=j
       · subst hij
         rw [ho] at hp;cases hp
         simp only [if_true]
         rw [hs]
         exact put_same _ _ _ (by rw [i3];exact hsl' o (Array.mem_of_getElem? ho) s hs)
       · rw [if_neg hij] at hl
         simp only [if_neg hij]
         rw [put_other _ _ _ _ (by
           rcases Nat.lt_or_gt_of_ne hij with h | h
           · exact K.apart i j p o s h hp ho hs
           · exact fun e=>K.apart j i o p s h ho hp e hs)]
         exact i5 i p s hp hs hl
     · intro i hl
       rw [getD_setD (by omega)] at hl
       by_cases hij:i=j
       · subst hij
         simp only [if_true]
         exact hv
       · rw [if_neg hij] at hl
         simp only [if_neg hij]
         exact i7 i hl
   unfold wpOp
   rw [ho]
   simp only
   have hout:∀s:Nat,ops.toList.all (fun p=>p.dst !=some s||p.after.any (fun e=>Region.binds .any e&&e.on == j))=true→a.eval (.tmp s)=a0.eval (.tmp s):=by
     intro s hs
     have:=i4 s (fun i p hp e=>by
       have h1:=(List.all_eq_true.1 hs) p (by simpa using Array.mem_of_getElem? hp)
       rw [e] at h1
       simp only [bne_self_eq_false,Bool.false_or] at h1
       obtain⟨q,hq,hb⟩:=Array.any_eq_true.1 h1
       simp only [Bool.and_eq_true,beq_iff_eq] at hb
       cases hli:l.getD i false with
       | false=>rfl
       | true=>
         have:=i8 i p hp hli _ (Array.getElem_mem hq) hb.1
         rw [hb.2,hjf] at this
         cases this)
     simp [Act.eval,Array.getD_eq_getD_getElem?,this]
   have hnot:∀(i:Nat),(match ops[i]? with | none=>false | some p=>reaches ops j 8 p)=true→l.getD i false=false:=by
     intro i hi
     cases hp:ops[i]? with
     | none=>rw [hp] at hi;cases hi
     | some p=>
       rw [hp] at hi
       cases hli:l.getD i false with
       | false=>rfl
       | true=>
         have:=reach_listed i8 8 p (i8 i p hp hli) hi
         rw [hjf] at this
         cases this
   have hwt:Region.wanted o (yielded ops a.tmps)=true:=by
     have hg:=K.guard j o ho
     unfold gOk at hg
     unfold Region.wanted
     cases hgd:o.guard with
     | none=>rfl
     | some ib=>
       obtain⟨i,b⟩:=ib
       rw [hgd] at hg
       simp only [Bool.and_eq_true] at hg
       obtain⟨⟨g1,g2⟩,g3⟩:=hg
       cases hp:ops[i]? with
       | none=>rw [hp] at g3;cases g3
       | some p=>
         rw [hp] at g3
         obtain⟨t,ht⟩:=Option.isSome_iff_exists.1 g3
         have h9:=hin i t g1 (by rw [hp];exact ht)
         have hv:=i5 i p t hp ht (hdep i g1)
         cases hui:us[i]? with
         | none=>rw [hui] at g2;cases g2
         | some u=>
           rw [hui] at g2
           cases u with
           | none=>cases g2
           | some x=>
             cases x with
             | bool c=>
               have hvb:vs i= .bool c:=told_is _ h9.2 hui
               rw [hvb] at hv
               simp only [beq_iff_eq] at g2
               subst g2
               simp [yielded,hp,ht,hv]
             | _=>cases g2
   rw [if_pos hwt]
   exact .inl (Oper.wp_mono (fun a' w' ⟨v,e,hv,hJ⟩=>by rw [e];exact next v w' hv hJ) (hop j o hjs ho a w l vs i1 hjf i6 hout hin hdep hnot))
 · rintro l a w ⟨i1,i2,i3,i4,i8,vs,i5,i7,i6⟩ hr
   have hall:∀n j,j<n→j<ops.size→l.getD j false=true:=by
     intro n
     induction n with
     | zero=>intro j hj;omega
     | succ n ih=>
       intro j hj hjs
       cases hlj:l.getD j false with
       | true=>rfl
       | false=>
         exfalso
         have hmem:j∈Region.ready .any ops l:=by
           rw [mem_ready]
           refine⟨?_,ops[j],Array.getElem?_eq_getElem hjs,fun e he hb=> ?_⟩
           · simp only [Array.getD_eq_getD_getElem?] at hlj⊢
             rw [Array.getElem?_eq_getElem (by omega)] at hlj⊢
             simpa using hlj
           · have:=K.back j ops[j] (Array.getElem?_eq_getElem hjs) e he hb
             exact ih e.on (by omega) (by omega)
         rw [hr] at hmem
         cases hmem
   have hl:=fun j (hj:j<ops.size)=>hall (j+1) j (by omega) hj
   have ha:a=putAll a0 ops.toList ((List.range ops.size).map vs):=by
     have hs:=putAll_size ops.toList ((List.range ops.size).map vs) a0
     have hdst:∀(i j:Nat) (p q:Oper) (t:Nat),ops.toList[i]?=some p→ops.toList[j]?=some q→i≠j→p.dst=some t→q.dst≠some t:=by
       intro i j p q t hp hq hij
       rw [Array.getElem?_toList] at hp hq
       rcases Nat.lt_or_gt_of_ne hij with h | h
       · exact K.apart i j p q t h hp hq
       · exact fun e1 e2=>K.apart j i q p t h hq hp e2 e1
     have ht:a.tmps=(putAll a0 ops.toList ((List.range ops.size).map vs)).tmps:=by
       apply Array.ext_getElem?
       intro t
       by_cases hx:∃(j:Nat) (o:Oper),ops[j]?=some o∧o.dst=some t
       · obtain⟨j,o,ho,hd⟩:=hx
         have hjs:j<ops.size:=(Array.getElem?_eq_some_iff.1 ho).1
         have hv:=i5 j o t ho hd (hl j hjs)
         have hvv:((List.range ops.size).map vs)[j]?=some (vs j):=by simp [hjs]
         rw [hv,putAll_sameW ops.toList ((List.range ops.size).map vs) a0 j o (vs j) t (by rw [Array.getElem?_toList];exact ho) hvv hd (hsl' o (Array.mem_of_getElem? ho) t hd) hdst]
       · have hno:∀p∈ops.toList,p.dst≠some t:=by
           intro p hp e
           obtain⟨j,hj⟩:=List.mem_iff_getElem?.1 hp
           exact hx ⟨j,p,by rw [← Array.getElem?_toList];exact hj,e⟩
         rw [i4 t (fun i p hp e=>absurd e (hno p (by simpa using Array.mem_of_getElem? hp))),putAll_other ops.toList ((List.range ops.size).map vs) a0 t hno]
     cases a
     simp only at ht i2
     cases hp:putAll a0 ops.toList ((List.range ops.size).map vs) with
     | mk tm df=>
       rw [hp] at ht hs
       simp only at ht hs
       rw [ht,i2,hs.2]
   rw [ha]
   exact hQ l vs w hl i6 fun j hj=>i7 j (hl j hj)
end Go.Proofs.Ytbigongmlpoahaa
namespace Go.Proofs.Ytbigongmlpoahaa.D
set_option maxRecDepth 100000
set_option linter.unusedSimpArgs false
open Go.RowKit Go.Shelf
theorem Bk_off {w W W':World} {B:Bo} {x y z:Value} {b T:Nat} {us:List Value} (h:Bk w W B x y z) (hB:Blk W b T us) (t1:T≠3) (t2:T≠38) (hk:Kept [b] W W'):Bk w W' B x y z:=
 ⟨⟨h.sh.row.kept hk (h.sh.row.ne hB t1),h.sh.own⟩,⟨h.pa.row.kept hk (h.pa.row.ne hB t1),h.pa.own⟩,⟨h.ln.row.kept hk (h.ln.row.ne hB t2),h.ln.own⟩⟩
theorem Bk_bs {w W:World} {B:Bo} {x y z:Value} (h:Bk w W B x y z):Bs W B x y z:=⟨h.sh.row,h.pa.row,h.ln.row⟩
theorem book_len {s:Lo} {L:List Wi} :(s.book L).sh.length≤1000∧(s.book L).pa.length≤1000:=by
 have h1:=lstTo_len s.shd 8
 have h2:=lstTo_len s.pa 8
 exact⟨by show(lstTo _ _).length≤_;omega,by show(lstTo _ _).length≤_;omega⟩
structure BX (w:World) (B:Bo) (d:Nat→Bool) (vs:Nat→Value) (W:World):Prop where
 k:Kept [] w W
 c:d 8=true→∃x y z,vs 8= .tuple #[aggV (B.C x y z),.bool true]∧Bk w W B x y z
 m:d 9=true→d 8=true∧vs 9=vs 8
 e:d 10=true→d 8=true∧vs 10=hv 1 (vs 8)
 al:d 12=true→∃b,vs 12=P0 b∧w.heap.size≤b∧(d 13=false→Blk W b 40 bz43)∧(d 13=true→∃x y z,Blk W b 40 (B.C x y z)∧Bk w W B x y z)
variable {w W W':World} {B:Bo} {d:Nat→Bool} {vs:Nat→Value}
theorem BX.loc:∀d d' vs vs' W,(∀i∈ [8,9,10,12,13],d i=d' i∧vs i=vs' i)→BX w B d vs W→BX w B d' vs' W:=by
 intro d d' vs vs' W E h
 obtain⟨a8,c8⟩:=E 8 (by simp)
 obtain⟨a9,c9⟩:=E 9 (by simp)
 obtain⟨a10,c10⟩:=E 10 (by simp)
 obtain⟨a12,c12⟩:=E 12 (by simp)
 obtain⟨a13,c13⟩:=E 13 (by simp)
 exact⟨h.k,by rw [← a8,← c8];exact h.c,by rw [← a8,← a9,← c8,← c9];exact h.m,by rw [← a8,← a10,← c8,← c10];exact h.e,by rw [← a12,← a13,← c12];exact h.al⟩
theorem BX.init:BX w B (fun i=>(Array.replicate 15 false).getD i false) (fun _=>undef) w.drew:=
 ⟨(Kept.refl _ _).drew,fun h=>by simp at h,fun h=>by simp at h,fun h=>by simp at h,fun h=>by simp at h⟩
theorem BX.call (h:BX w B d vs W) (n9:d 9=false) (n10:d 10=false) (n13:d 13=false) (hk:Kept [] W W') {x y z:Value} (hb:Bk W W' B x y z):BX w B (fun i=>if i=8 then true else d i) (fun i=>if i=8 then .tuple #[aggV (B.C x y z),.bool true] else vs i) W':=by
 refine⟨h.k.trans hk,fun _=>⟨x,y,z,by simp,hb.elder h.k.size⟩,fun e=> ?_,fun e=> ?_,fun e=> ?_⟩
 · simp [n9] at e
 · simp [n10] at e
 · simp only [if_neg (show ¬(12:Nat)=8 by decide),if_neg (show ¬(13:Nat)=8 by decide)] at e⊢
   obtain⟨b,h1,h2,h3,_⟩:=h.al e
   exact⟨b,h1,h2,fun h9=>(h3 h9).kept hk (by simp),fun h9=>by rw [n13] at h9;cases h9⟩
theorem BX.mv (h:BX w B d vs W) (h1:d 8=true) {u:Value} (hu:u=vs 8):BX w B (fun i=>if i=9 then true else d i) (fun i=>if i=9 then u else vs i) W:=by
 subst hu
 exact⟨h.k,h.c,fun _=>⟨h1,rfl⟩,h.e,h.al⟩
theorem BX.ex (h:BX w B d vs W) (h1:d 8=true) {u:Value} (hu:u=hv 1 (vs 8)):BX w B (fun i=>if i=10 then true else d i) (fun i=>if i=10 then u else vs i) W:=by
 subst hu
 exact⟨h.k,h.c,h.m,fun _=>⟨h1,rfl⟩,h.al⟩
theorem BX.alloc (h:BX w B d vs W) (n13:d 13=false) {b:Nat} (hb:b=W.heap.size) (hB:Blk W' b 40 bz43) (hk:Kept [] W W'):BX w B (fun i=>if i=12 then true else d i) (fun i=>if i=12 then P0 b else vs i) W':=by
 refine⟨h.k.trans hk,fun e=> ?_,h.m,h.e,fun _=>⟨b,rfl,by have:=h.k.size;omega,fun _=>hB,fun e=> ?_⟩⟩
 · obtain⟨x,y,z,e1,e2⟩:=h.c e
   exact⟨x,y,z,e1,e2.kept hk (by simp)⟩
 · simp [n13] at e
theorem BX.st (h:BX w B d vs W) (h12:d 12=true) {b:Nat} (he:vs 12=P0 b) {x y z:Value} (hb:Bk w W B x y z) (hB:Blk W b 40 bz43) (hB':Blk W' b 40 (B.C x y z)) (hk:Kept [b] W W') {u:Value} :BX w B (fun i=>if i=13 then true else d i) (fun i=>if i=13 then u else vs i) W':=by
 obtain⟨b',e1,e2,_⟩:=h.al h12
 obtain rfl:b'=b:=by rw [he] at e1;cases e1;rfl
 refine⟨h.k.fresh hk (fun i hi hl=>by simp at hi;omega),fun e=> ?_,h.m,h.e,fun _=>⟨b',e1,e2,fun e=>by simp at e,fun _=>⟨x,y,z,hB',Bk_off hb hB (by decide) (by decide) hk⟩⟩⟩
 obtain⟨x1,y1,z1,e3,e4⟩:=h.c e
 exact⟨x1,y1,z1,e3,Bk_off e4 hB (by decide) (by decide) hk⟩
section
variable {us:List (Option Value)} {a:Act} {t:Option Nat} {l:Array Bool} {j:Nat} {v:Value}
theorem kpB (hJ:BX w B (fun i=>l.getD i false) vs W) (hu:us[j]?=some (some v)) (hl:j<l.size) (hj:([8,9,10,12,13].all fun i=>i !=j)=true):∃u,a.put t v=a.put t u∧told us j u∧BX w B (fun i=>(l.setIfInBounds j true).getD i false) (fun i=>if i=j then u else vs i) W:=
 ⟨v,rfl,told_of hu,keepG [8,9,10,12,13] BX.loc hl hj hJ⟩
theorem kpN (hJ:BX w B (fun i=>l.getD i false) vs W) (hu:us[j]?=some none) (hl:j<l.size) (hj:([8,9,10,12,13].all fun i=>i !=j)=true):∃u,a.put t v=a.put t u∧told us j u∧BX w B (fun i=>(l.setIfInBounds j true).getD i false) (fun i=>if i=j then u else vs i) W:=
 ⟨v,rfl,told_no hu,keepG [8,9,10,12,13] BX.loc hl hj hJ⟩
theorem o_idx31n {o:Oper} {K:Act→World→Prop} {Q:Exit→Act→World→Prop} (x y:Operand) (ho:o.op= .indexAddr 23 x y) (g off n c j:Nat) (hj:j<n) (hx:a.eval x= .slice (some ⟨g,off,none⟩) n c) (hy:a.eval y= .int .i64 j) (h:K (a.put o.dst (.pointer (some ⟨g,off+j*6,none⟩))) w):o.wp Try.prog a w K Q:=by
 have hjI:(j:Int)<n:=by omega
 unfold Oper.wp execOp
 simp only [ho,hx,hy]
 simp [go_sem,hjI]
 exact h
end
def atT (g:Int) (T:List (Int×Lo×List Wi)):List (Int×Lo×List Wi):=T.filter fun t=>decide (t.1=g)
def step1 (x:Se) (t:Int×Lo×List Wi):Int×Lo×List Wi:=if t.1=x.g then (t.1,(doP x t.2.1 t.2.2).1,(doP x t.2.1 t.2.2).2.1) else t
theorem step1_k (x:Se) (t:Int×Lo×List Wi):(step1 x t).1=t.1:=by unfold step1;split <;> rfl
theorem atT_step (g:Int) (x:Se) (T:List (Int×Lo×List Wi)):atT g (stepT x T)=(atT g T).map (step1 x):=by
 unfold atT stepT
 rw [List.filter_map]
 have e:((fun t:Int×Lo×List Wi=>decide (t.1=g))∘step1 x)=fun t=>decide (t.1=g):=by
   funext t
   simp only [Function.comp,step1_k]
 show List.map (step1 x) (List.filter ((fun t:Int×Lo×List Wi=>decide (t.1=g))∘step1 x) T)=_
 rw [e]
theorem atT_far (g:Int) (x:Se) (T:List (Int×Lo×List Wi)) (h:x.g≠g):atT g (stepT x T)=atT g T:=by
 rw [atT_step]
 have:∀t∈atT g T,step1 x t=t:=by
   intro t ht
   have h1:=(List.mem_filter.1 ht).2
   simp only [decide_eq_true_eq] at h1
   unfold step1
   rw [if_neg (by rw [h1];exact fun e=>h e.symm)]
 rw [List.map_congr_left this,List.map_id']
def only (g:Int) (X:List Se):List Se:=X.filter fun x=>decide (x.g=g)
theorem run_only (g:Int):∀(X:List Se) (T T':List (Int×Lo×List Wi)),atT g T=atT g T'→atT g (runT X T)=atT g (runT (only g X) T')
 | [],T,T',h=>h
 | x::X,T,T',h=>by
   by_cases e:x.g=g
   · have e2:only g (x::X)=x::only g X:=by unfold only;rw [List.filter_cons_of_pos (by simpa using e)]
     rw [e2]
     show atT g (runT X (stepT x T))=atT g (runT (only g X) (stepT x T'))
     exact run_only g X _ _ (by rw [atT_step,atT_step,h])
   · have e2:only g (x::X)=only g X:=by unfold only;rw [List.filter_cons_of_neg (by simpa using e)]
     rw [e2]
     show atT g (runT X (stepT x T))=_
     exact run_only g X _ _ (by rw [atT_far g x T e,h])
theorem only_succ {X:List Se} {j:Nat} {x:Se} (g:Int) (h:X[j]?=some x):only g (X.take (j+1))=if x.g=g then only g (X.take j)++ [x] else only g (X.take j):=by
 rw [List.take_add_one,h]
 unfold only
 rw [List.filter_append]
 simp only [Option.toList_some]
 by_cases e:x.g=g
 · rw [if_pos e,List.filter_cons_of_pos (by simpa using e)];rfl
 · rw [if_neg e,List.filter_cons_of_neg (by simpa using e)];simp
theorem runT_add (X:List Se) (x:Se) (T:List (Int×Lo×List Wi)):runT (X++ [x]) T=stepT x (runT X T):=by unfold runT;rw [List.foldl_append];rfl
theorem stepT_k (x:Se) (T:List (Int×Lo×List Wi)):(stepT x T).map (·.1)=T.map (·.1):=by
 show(T.map (step1 x)).map _=_
 rw [List.map_map]
 exact List.map_congr_left fun t _=>step1_k x t
theorem runT_k:∀(X:List Se) (T:List (Int×Lo×List Wi)),(runT X T).map (·.1)=T.map (·.1)
 | [],_=>rfl
 | x::X,T=>(runT_k X (stepT x T)).trans (stepT_k x T)
theorem Lw.keys {A wb b mb:Nat} {w0:World} {P:List Pr} {X:List Se} {L:List Int} (h:Lw w0 W A wb b mb P (runT X (newT L))):P.map (fun y=>y.x.k)=L:=by
 have h1:=congrArg (List.map (·.1)) h.t
 rw [runT_k] at h1
 unfold stT newT at h1
 rw [List.map_map,List.map_map] at h1
 exact Eq.trans (show P.map (fun y=>y.x.k)=_ from h1) (show L.map (fun n=>n)=L from List.map_id' L)
theorem two_at {A A2 wb b mb wb2 b2 mb2:Nat} {V:World} {P Q:List Pr} {g:Int} (h:Wd A W wb b mb P) (k:Wd A2 V wb2 b2 mb2 Q) (hg:g∈P.map (fun y=>y.x.k)) (he:atT g (stT P)=atT g (stT Q)):∃x y,lkOf g (P.map Pr.x)=some x∧lkOf g (Q.map Pr.x)=some y∧x.s=y.s∧x.q=y.q:=by
 obtain⟨p,hp,hpg⟩:=List.mem_map.1 hg
 have h1:(p.x.k,p.x.s,p.x.q)∈atT g (stT P):=List.mem_filter.2 ⟨List.mem_map.2 ⟨p,hp,rfl⟩,by simpa using hpg⟩
 rw [he] at h1
 obtain⟨q,hq,e⟩:=List.mem_map.1 (List.mem_filter.1 h1).1
 simp only [Prod.mk.injEq] at e
 refine⟨p.x,q.x,?_,?_,e.2.1.symm,e.2.2.symm⟩
 · rw [← hpg];exact lkOf_of h.dg.nd (h.mem hp)
 · rw [← hpg,← e.1];exact lkOf_of k.dg.nd (k.mem hq)
end Go.Proofs.Ytbigongmlpoahaa.D
