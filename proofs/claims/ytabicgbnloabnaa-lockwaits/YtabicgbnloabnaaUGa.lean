import Derived.Test.YtabicgbnloabnaaURf
import Derived.Test.YtabicgbnloabnaaURg
import Derived.Test.YtabicgbnloabnaaUFs
namespace Go.Proofs.Ytabicgbnloabnaa
set_option maxRecDepth 100000
set_option linter.unusedSimpArgs false
open Go.RowKit
structure Sp where
 k:Int
 n:Int
 m:Int
 o:Int
 p:Int
def Sp.C (x:Sp):List Value:= [.int .i64 x.k,.int .i64 x.n,.int .i64 x.m,.int .i64 x.o,.int .i64 x.p]
def heldP (r:Rk) (x:Sp):Int:=if x.o= -2 then r.op else if x.o= -1∧isN x.n=true then r.ops x.n.toNat else x.o
theorem held_a (r:Rk) (ln:Value) (b:Nat) (x:Sp) (w:World) (h:Blk w b 47 (r.C ln)) (ho:x.o= -2):Calls Try.prog 36 #[P0 b,aggV x.C] w fun e w'=>e= .returned (.int .i64 (r.op))∧Kept [] w w':=by
 have M:Hid (Mm [] w w []):=hide Mm.init
 have HB:=hide h
 have HO:=hide ho
 clear ho
 clear h
 go_enter Try.func36,Try.ntmps36
 go_wp2_with (first |(refine wpBoxV rfl (.tmp 1) rfl (x.C) rfl ?_;intro W1 b1 e1 B1 K1;replace M:=hide ((unhide M).new e1 B1 K1);clear e1 B1 K1;have c3:W1.cell? ⟨b1,3,none⟩=some (.int .i64 (-2)):=(fits_cell ((unhide M).at 0 _ rfl) 3 _ rfl).trans (by rw [show x.o=(-2) from unhide HO]);have c9:W1.cell? ⟨b,39,none⟩=some (.int .i64 r.op):=fits_cell ((unhide HB).kept (unhide M).kept (by simp)) 39 _ rfl;refine Stp.go ?_))
 constructor
 go_wp2_with fail
 go_ret
 exact⟨rfl,(unhide M).kept⟩
theorem held_c (r:Rk) (ln:Value) (b:Nat) (x:Sp) (w:World) (h:Blk w b 47 (r.C ln)) (ho:x.o= -1) (hm:isN x.n=false):Calls Try.prog 36 #[P0 b,aggV x.C] w fun e w'=>e= .returned (.int .i64 (-1))∧Kept [] w w':=by
 have M:Hid (Mm [] w w []):=hide Mm.init
 have HB:=hide h
 have HO:=hide ho
 have P47:∀W,Hid (Calls Try.prog 47 #[.int .i64 x.n] W fun e w'=>e= .returned (.bool false)∧w'=W):=fun W=>hide (by have h9:=in47 x.n W;rw [show isN x.n=false by exact hm] at h9;exact h9)
 clear ho hm
 clear h
 go_enter Try.func36,Try.ntmps36
 go_wp2_with (first |(refine wpBoxV rfl (.tmp 1) rfl (x.C) rfl ?_;intro W1 b1 e1 B1 K1;replace M:=hide ((unhide M).new e1 B1 K1);clear e1 B1 K1;have c3:W1.cell? ⟨b1,3,none⟩=some (.int .i64 (-1)):=(fits_cell ((unhide M).at 0 _ rfl) 3 _ rfl).trans (by rw [show x.o=(-1) from unhide HO]);have c1:W1.cell? ⟨b1,1,none⟩=some (.int .i64 x.n):=fits_cell ((unhide M).at 0 _ rfl) 1 _ rfl;refine Stp.go ?_))
 constructor
 go_wp2_with (first |(go_at_call 47;refine(unhide (P47 _)).mono ?_;rintro e W2 ⟨rfl,q2⟩;replace q2:=q2.symm;subst q2;refine Stp.go ?_))
 constructor
 go_wp2_with fail
 go_ret
 exact⟨rfl,(unhide M).kept⟩
theorem held_d (r:Rk) (ln:Value) (b:Nat) (x:Sp) (w:World) (h:Blk w b 47 (r.C ln)) (h1:¬x.o= -2) (h2:¬x.o= -1):Calls Try.prog 36 #[P0 b,aggV x.C] w fun e w'=>e= .returned (.int .i64 (x.o))∧Kept [] w w':=by
 have M:Hid (Mm [] w w []):=hide Mm.init
 have HB:=hide h
 have h1a:decide (x.o= -2)=false:=nef_a h1
 have h1b:(x.o == -2)=false:=nef_b h1
 have h1c:(x.o != -2)=true:=nef_c h1
 have h2a:decide (x.o= -1)=false:=nef_a h2
 have h2b:(x.o == -1)=false:=nef_b h2
 have h2c:(x.o != -1)=true:=nef_c h2
 clear h
 go_enter Try.func36,Try.ntmps36
 go_wp2_with (first |(refine wpBoxV rfl (.tmp 1) rfl (x.C) rfl ?_;intro W1 b1 e1 B1 K1;replace M:=hide ((unhide M).new e1 B1 K1);clear e1 B1 K1;have c3:W1.cell? ⟨b1,3,none⟩=some (.int .i64 x.o):=fits_cell ((unhide M).at 0 _ rfl) 3 _ rfl;refine Stp.go ?_))
 constructor
 go_wp2_with fail
 go_ret
 exact⟨rfl,(unhide M).kept⟩
theorem held_b (r:Rk) (ln:Value) (b:Nat) (x:Sp) (w:World) (h:Blk w b 47 (r.C ln)) (ho:x.o= -1) (n:Nat) (hn:n<8) (hx:x.n=(n:Int)):Calls Try.prog 36 #[P0 b,aggV x.C] w fun e w'=>e= .returned (.int .i64 (r.ops n))∧Kept [] w w':=by
 have M:Hid (Mm [] w w []):=hide Mm.init
 have HB:=hide h
 have HO:=hide ho
 have HN:=hide hx
 have P47:∀W,Hid (Calls Try.prog 47 #[.int .i64 (n:Int)] W fun e w'=>e= .returned (.bool true)∧w'=W):=fun W=>hide (by have h9:=in47 (n:Int) W;rw [show isN (n:Int)=true by simp [isN];omega] at h9;exact h9)
 clear ho hx
 clear h
 go_enter Try.func36,Try.ntmps36
 go_wp2_with (first |(refine wpBoxV rfl (.tmp 1) rfl (x.C) rfl ?_;intro W1 b1 e1 B1 K1;replace M:=hide ((unhide M).new e1 B1 K1);clear e1 B1 K1;have c3:W1.cell? ⟨b1,3,none⟩=some (.int .i64 (-1)):=(fits_cell ((unhide M).at 0 _ rfl) 3 _ rfl).trans (by rw [show x.o=(-1) from unhide HO]);have c1:W1.cell? ⟨b1,1,none⟩=some (.int .i64 n):=(fits_cell ((unhide M).at 0 _ rfl) 1 _ rfl).trans (by rw [show x.n=(n:Int) from unhide HN]);refine Stp.go ?_))
 constructor
 go_wp2_with (first |(go_at_call 47;refine(unhide (P47 _)).mono ?_;rintro e W2 ⟨rfl,q2⟩;replace q2:=q2.symm;subst q2;refine Stp.go ?_))
 constructor
 go_wp2_with fail
 refine wp_region_any mixed (wpAny_tq 8 rfl (by kernel_rfl) [some (P0 b),some (.pointer (some ⟨b1,1,none⟩)),some (.int .i64 n),some (P0 b),some (.pointer (some ⟨b,18,none⟩)),some (.pointer (some ⟨b,18+n,none⟩)),some (.int .i64 (r.ops n)),some (.int .i64 (r.ops n))] rfl (by kernel_rfl) (by kernel_rfl) ?_ ?_)
 · intro i o' hi hsk ho a' w2 hout hin hk2
   replace hk2:Kept [] W1 w2:=⟨hk2.os,hk2.tape,hk2.output,hk2.size,hk2.block⟩
   match i,ho,hsk with
   | 0,ho,hsk=>
     obtain rfl:=Oj9 ho
     exact wp_move (.tmp 0) rfl _ ((hout 0 (by kernel_rfl)).trans rfl) (tE rfl)
   | 1,ho,hsk=>
     obtain rfl:=Oj9 ho
     exact o_fld33_1 (.tmp 3) rfl b1 (0) (1) rfl ((hout 3 (by kernel_rfl)).trans rfl) (tE rfl)
   | 2,ho,hsk=>
     obtain rfl:=Oj9 ho
     have e0:a'.eval (.tmp 21)= .pointer (some ⟨b1,1,none⟩):=is_tq (hin 1 21 (by kernel_rfl) (by kernel_rfl)) rfl
     exact o_load3 (.tmp 21) rfl _ _ e0 ((fits_cell (((unhide M).step hk2).at 0 _ rfl) 1 _ rfl).trans (by rw [show x.n=(n:Int) from unhide HN])) (tE rfl)
   | 3,ho,hsk=>
     obtain rfl:=Oj9 ho
     have e0:a'.eval (.tmp 20)=P0 b:=is_tq (hin 0 20 (by kernel_rfl) (by kernel_rfl)) rfl
     exact o_nil (.tmp 20) rfl _ e0 (tE rfl)
   | 4,ho,hsk=>
     obtain rfl:=Oj9 ho
     have e0:a'.eval (.tmp 23)=P0 b:=is_tq (hin 3 23 (by kernel_rfl) (by kernel_rfl)) rfl
     exact o_fld47_4 (.tmp 23) rfl b (0) (18) rfl e0 (tE rfl)
   | 5,ho,hsk=>
     obtain rfl:=Oj9 ho
     have e0:a'.eval (.tmp 24)= .pointer (some ⟨b,18,none⟩):=is_tq (hin 4 24 (by kernel_rfl) (by kernel_rfl)) rfl
     have e1:a'.eval (.tmp 22)= .int .i64 n:=is_tq (hin 2 22 (by kernel_rfl) (by kernel_rfl)) rfl
     exact o_idx37 (.tmp 24) (.tmp 22) rfl b (18) n (18+n) (by first | assumption | omega) rfl e0 e1 (tE rfl)
   | 6,ho,hsk=>
     obtain rfl:=Oj9 ho
     have e0:a'.eval (.tmp 25)= .pointer (some ⟨b,18+n,none⟩):=is_tq (hin 5 25 (by kernel_rfl) (by kernel_rfl)) rfl
     exact o_load2 (.tmp 25) rfl _ _ e0 (Blk.rops ((unhide HB).kept ((unhide M).kept.trans hk2) (by simp)) (by first | assumption | omega)) (tE rfl)
   | 7,ho,hsk=>
     obtain rfl:=Oj9 ho
     have e0:a'.eval (.tmp 26)= .int .i64 (r.ops n):=is_tq (hin 6 26 (by kernel_rfl) (by kernel_rfl)) rfl
     exact wp_assignV (.tmp 26) rfl _ e0 (tE rfl)
 intro w9 hk9
 replace hk9:Kept [] W1 w9:=⟨hk9.os,hk9.tape,hk9.output,hk9.size,hk9.block⟩
 simp only [valsQ,List.map_cons,List.map_nil,Option.getD_some,List.take_succ_cons,List.take_zero,putAll,Act.put,List.setIfInBounds_toArray,List.set_cons_succ,List.set_cons_zero]
 refine wpAny_done (by kernel_rfl) ?_ _
 go_wp2_with fail
 go_ret
 exact⟨rfl,(unhide M).kept.trans hk9⟩
theorem held36 (r:Rk) (ln:Value) (b:Nat) (x:Sp) (w:World) (h:Blk w b 47 (r.C ln)):Calls Try.prog 36 #[P0 b,aggV x.C] w fun e w'=>e= .returned (.int .i64 (heldP r x))∧Kept [] w w':=by
 unfold heldP
 by_cases h1:x.o= -2
 · rw [if_pos h1];exact held_a r ln b x w h h1
 · rw [if_neg h1]
   by_cases h2:x.o= -1
   · cases hm:isN x.n with
     | false=>rw [if_neg (by simp),h2];exact held_c r ln b x w h h2 hm
     | true=>
       have h3:0≤x.n∧x.n<8:=by simpa [isN] using hm
       rw [if_pos ⟨h2,rfl⟩]
       exact held_b r ln b x w h h2 x.n.toNat (by omega) (by omega)
   · rw [if_neg (by simp [h2])];exact held_d r ln b x w h h1 h2
end Go.Proofs.Ytabicgbnloabnaa
