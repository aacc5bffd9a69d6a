import Derived.Test.YtabicgbnloabnaaUGf
namespace Go.Proofs.Ytabicgbnloabnaa
set_option maxRecDepth 100000
set_option linter.unusedSimpArgs false
open Go.RowKit
theorem does_0 (base:Bw) (w:World) (b c:Nat) (x:Sp) (s:Lo) (L:List Wi) (r:Rk) (R:List Wi) (ln lr:Value) (hD:Du base w b c s L r R ln lr) (h1:¬x.k=1) (h2:¬x.k=2) (h3:¬x.k=3) (h4:¬x.k=4) (h5:¬x.k=5) (h6:¬x.k=6) (ho:¬x.o= -1):Calls Try.prog 12 #[P0 b,P0 c,aggV x.C] w (DC base w b c (s,L,[]) (r,R,[])):=by
 have M:Hid (Mm [] w w []):=hide Mm.init
 have HD:=hide hD
 have hoa:decide (x.o= -1)=false:=nef_a ho
 have hob:(x.o == -1)=false:=nef_b ho
 have hoc:(x.o != -1)=true:=nef_c ho
 have h1a:decide (x.k=1)=false:=nef_a h1
 have h1b:(x.k == 1)=false:=nef_b h1
 have h1c:(x.k !=1)=true:=nef_c h1
 have h2a:decide (x.k=2)=false:=nef_a h2
 have h2b:(x.k == 2)=false:=nef_b h2
 have h2c:(x.k !=2)=true:=nef_c h2
 have h3a:decide (x.k=3)=false:=nef_a h3
 have h3b:(x.k == 3)=false:=nef_b h3
 have h3c:(x.k !=3)=true:=nef_c h3
 have h4a:decide (x.k=4)=false:=nef_a h4
 have h4b:(x.k == 4)=false:=nef_b h4
 have h4c:(x.k !=4)=true:=nef_c h4
 have h5a:decide (x.k=5)=false:=nef_a h5
 have h5b:(x.k == 5)=false:=nef_b h5
 have h5c:(x.k !=5)=true:=nef_c h5
 have h6a:decide (x.k=6)=false:=nef_a h6
 have h6b:(x.k == 6)=false:=nef_b h6
 have h6c:(x.k !=6)=true:=nef_c h6
 clear hD
 go_enter Try.func12,Try.ntmps12
 go_wp2_with (first |(refine wpBoxV rfl (.tmp 2) rfl (x.C) rfl ?_;intro W1 b1 e1 B1 K1;replace M:=hide ((unhide M).new e1 B1 K1);clear e1 B1 K1;have c0:W1.cell? ⟨b1,0,none⟩=some (.int .i64 x.k):=fits_cell ((unhide M).at 0 _ rfl) 0 _ rfl;have c3:W1.cell? ⟨b1,3,none⟩=some (.int .i64 x.o):=fits_cell ((unhide M).at 0 _ rfl) 3 _ rfl;refine Stp.go ?_))
 constructor
 go_wp2_with fail
 go_ret2
 exact⟨_,_,ln,lr,rfl,New.nil _ _ _ _,New.nil _ _ _ _,(unhide HD).step (unhide M).kept⟩
theorem does_0n (base:Bw) (w:World) (b c:Nat) (x:Sp) (s:Lo) (L:List Wi) (r:Rk) (R:List Wi) (ln lr:Value) (hD:Du base w b c s L r R ln lr) (h1:¬x.k=1) (h2:¬x.k=2) (h3:¬x.k=3) (h4:¬x.k=4) (h5:¬x.k=5) (h6:¬x.k=6) (ho:x.o= -1):Calls Try.prog 12 #[P0 b,P0 c,aggV x.C] w (DC base w b c (s,L,[]) (r,R,[])):=by
 have M:Hid (Mm [] w w []):=hide Mm.init
 have HD:=hide hD
 have HO:=hide ho
 clear ho
 have h1a:decide (x.k=1)=false:=nef_a h1
 have h1b:(x.k == 1)=false:=nef_b h1
 have h1c:(x.k !=1)=true:=nef_c h1
 have h2a:decide (x.k=2)=false:=nef_a h2
 have h2b:(x.k == 2)=false:=nef_b h2
 have h2c:(x.k !=2)=true:=nef_c h2
 have h3a:decide (x.k=3)=false:=nef_a h3
 have h3b:(x.k == 3)=false:=nef_b h3
 have h3c:(x.k !=3)=true:=nef_c h3
 have h4a:decide (x.k=4)=false:=nef_a h4
 have h4b:(x.k == 4)=false:=nef_b h4
 have h4c:(x.k !=4)=true:=nef_c h4
 have h5a:decide (x.k=5)=false:=nef_a h5
 have h5b:(x.k == 5)=false:=nef_b h5
 have h5c:(x.k !=5)=true:=nef_c h5
 have h6a:decide (x.k=6)=false:=nef_a h6
 have h6b:(x.k == 6)=false:=nef_b h6
 have h6c:(x.k !=6)=true:=nef_c h6
 clear hD
 go_enter Try.func12,Try.ntmps12
 go_wp2_with (first |(refine wpBoxV rfl (.tmp 2) rfl (x.C) rfl ?_;intro W1 b1 e1 B1 K1;replace M:=hide ((unhide M).new e1 B1 K1);clear e1 B1 K1;have c0:W1.cell? ⟨b1,0,none⟩=some (.int .i64 x.k):=fits_cell ((unhide M).at 0 _ rfl) 0 _ rfl;have c3:W1.cell? ⟨b1,3,none⟩=some (.int .i64 (-1)):=(fits_cell ((unhide M).at 0 _ rfl) 3 _ rfl).trans (by rw [show x.o= -1 from unhide HO]);have c9:W1.cell? ⟨c,39,none⟩=some (.int .i64 r.op):=fits_cell ((unhide HD).step (unhide M).kept).rb 39 _ rfl;refine Stp.go ?_))
 constructor
 go_wp2_with fail
 go_ret2
 exact⟨_,_,ln,lr,rfl,New.nil _ _ _ _,New.nil _ _ _ _,(unhide HD).step (unhide M).kept⟩
def opP (r:Rk) (x:Sp):Int:=if x.o= -1 then r.op else x.o
def pdo (s:Lo) (L:List Wi) (r:Rk) (x:Sp):Lo×List Wi×List Od:=if x.k=1 then wantP s L x.n x.m else if x.k=2 then askI s L x.n 3 else if x.k=3 then goneP s L x.n (opP r x) else if x.k=4 then gotP s L x.n (opP r x) else if x.k=5 then relP s L x.n (heldP r x) else if x.k=6 then wroteP s L x.n (heldP r x) x.p else (s,L,[])
def rdo (r:Rk) (R:List Wi) (x:Sp):Rk×List Wi×List Od:=if x.k=1 then rwantP r R x.n x.m else if x.k=2 then rwishI r R x.n 3 else if x.k=3 then rwentP r R x.n (opP r x) else if x.k=4 then rgotP r R x.n (opP r x) else if x.k=5 then rrelP r R x.n (heldP r x) else if x.k=6 then rwroteP r R x.n (heldP r x) x.p else (r,R,[])
theorem does12 (base:Bw) (w:World) (b c:Nat) (x:Sp) (s:Lo) (L:List Wi) (r:Rk) (R:List Wi) (ln lr:Value) (hD:Du base w b c s L r R ln lr) (hs:∀W ln,Blk W b 75 (s.C ln)→Ws W ln L→Sd W b ln s L) (hr:∀W lr,Blk W c 47 (r.C lr)→Ws W lr R→Rs W c lr r R):Calls Try.prog 12 #[P0 b,P0 c,aggV x.C] w (DC base w b c (pdo s L r x) (rdo r R x)):=by
 unfold pdo rdo opP
 by_cases ho:x.o= -1
 · rw [if_pos ho]
   by_cases h1:x.k=1
   · simp only [if_pos h1];exact does_1n base w b c x s L r R ln lr hD hs hr h1 ho
   simp only [if_neg h1]
   by_cases h2:x.k=2
   · simp only [if_pos h2];exact does_2n base w b c x s L r R ln lr hD hs hr h2 ho
   simp only [if_neg h2]
   by_cases h3:x.k=3
   · simp only [if_pos h3];exact does_3n base w b c x s L r R ln lr hD hs hr h3 ho
   simp only [if_neg h3]
   by_cases h4:x.k=4
   · simp only [if_pos h4];exact does_4n base w b c x s L r R ln lr hD hs hr h4 ho
   simp only [if_neg h4]
   by_cases h5:x.k=5
   · simp only [if_pos h5];exact does_5n base w b c x s L r R ln lr hD hs hr h5 ho
   simp only [if_neg h5]
   by_cases h6:x.k=6
   · simp only [if_pos h6];exact does_6n base w b c x s L r R ln lr hD hs hr h6 ho
   simp only [if_neg h6]
   exact does_0n base w b c x s L r R ln lr hD h1 h2 h3 h4 h5 h6 ho
 · rw [if_neg ho]
   by_cases h1:x.k=1
   · simp only [if_pos h1];exact does_1 base w b c x s L r R ln lr hD hs hr h1 ho
   simp only [if_neg h1]
   by_cases h2:x.k=2
   · simp only [if_pos h2];exact does_2 base w b c x s L r R ln lr hD hs hr h2 ho
   simp only [if_neg h2]
   by_cases h3:x.k=3
   · simp only [if_pos h3];exact does_3 base w b c x s L r R ln lr hD hs hr h3 ho
   simp only [if_neg h3]
   by_cases h4:x.k=4
   · simp only [if_pos h4];exact does_4 base w b c x s L r R ln lr hD hs hr h4 ho
   simp only [if_neg h4]
   by_cases h5:x.k=5
   · simp only [if_pos h5];exact does_5 base w b c x s L r R ln lr hD hs hr h5 ho
   simp only [if_neg h5]
   by_cases h6:x.k=6
   · simp only [if_pos h6];exact does_6 base w b c x s L r R ln lr hD hs hr h6 ho
   simp only [if_neg h6]
   exact does_0 base w b c x s L r R ln lr hD h1 h2 h3 h4 h5 h6 ho
end Go.Proofs.Ytabicgbnloabnaa
