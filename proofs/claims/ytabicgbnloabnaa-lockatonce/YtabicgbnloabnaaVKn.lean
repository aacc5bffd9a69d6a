import Derived.Test.YtabicgbnloabnaaVFr
import Derived.Test.YtabicgbnloabnaaVPa
namespace Go.Proofs.Ytabicgbnloabnaa
set_option maxRecDepth 100000
set_option linter.unusedSimpArgs false
open Go.RowKit
theorem kl_book {A:Nat} {base W:World} {b:Nat} {s:Lo} {L:List Wi} (h:Kl A base W b s L) (hA:A≤900):Calls Try.prog 15 #[P0 b] W fun e w'=>∃x y z,e= .returned (aggV ((s.book L).C x y z))∧Bk W w' (s.book L) x y z∧Kl A base w' b s L:=by
 obtain⟨ln,h1,h2,h3⟩:=h.st
 refine(book15 s ln b L W h1 h2 h.gd.ok.ex (by have:=h.gd.len;omega)).mono ?_
 rintro e w' ⟨x,y,z,rfl,hB,hK⟩
 exact⟨x,y,z,rfl,hB,h.step hK⟩
theorem Os.one {W:World} {g:Nat} {x:Od} (h:Blk W g 65 x.C):Os W (.slice (some ⟨g,0,none⟩) 1 1) [x]:=Rw.made (by simpa [odC] using h) rfl (max1000 (by omega))
theorem is27t (L:List Od) (u v:Value) (w:World) (h:Os w u L) (k:Os w v L) (hL:L.length≤100000):Calls Try.prog 27 #[u,v] w fun e w'=>e= .returned (.bool true)∧Kept [] w w':=by
 have:=is27 L L u v w h k hL
 rw [decide_eq_true rfl] at this
 exact this
theorem kl_idle {A:Nat} {base W:World} {b:Nat} {s:Lo} {L:List Wi} (h:Kl A base W b s L):Calls Try.prog 17 #[P0 b] W fun e w'=>e= .returned (.bool (!s.busy))∧w'=W:=by
 obtain⟨ln,h1⟩:=h.blk
 exact idle17 s ln b W h1
section
variable {ops:Array Oper} {rest:List Oper} {op:Oper} {a:Act} {w:World} {Q:Exit→Act→World→Prop}
theorem wpBs28G (y:Operand) (ho:op.op= .buildSlice 28 1 #[(0,y)]) (hw:Region.wanted op (yielded ops a.tmps)=true) (x:Od) (hy:a.eval y=aggV x.C) (h:∀W g,g=w.heap.size→Blk W g 65 x.C→Kept [] w W→wpList Try.prog ops Q rest (a.put op.dst (.slice (some ⟨g,0,none⟩) 1 1)) W):wpList Try.prog ops Q (op::rest) a w:=
 BigFrame.wpList_want hw fun _ hK=>o_bs28 y ho x hy (fun W g h1 h2 h3=>hK _ _ (h W g h1 h2 h3))
end
set_option maxHeartbeats 16000000 in
theorem known_gen (p0 p1 p2 p3 p4 p5 p6 p7 p8 p9 p10 p11 p12 p13 p14 p15 q0 q1 q2 q3 q4 q5 q6 q7 q8 q9 q10:Lo) (Oq1 Oq2 Oq3 Oq4 Oq5 Oq6:List Od) (w:World) (hp0:p0=lo0) (hq0:q0=lo0)
   (hp1:wantP p0 [] 1 1=(p1,[],[⟨1,1,1,1,0,0⟩]))
   (hp2:gotP p1 [] 1 1=(p2,[],[]))
   (hp3:wantP p2 [] 2 1=(p3,[],[⟨2,1,2,0,2,0⟩]))
   (hp4:gotP p3 [] 2 2=(p4,[],[]))
   (hp5:wantP p4 [] 3 2=(p5,[],[⟨4,2,3,0,0,0⟩]))
   (hp6:goneP p5 [] 2 3=(p6,[],[⟨3,1,3,0,3,0⟩]))
   (hp7:gotP p6 [] 3 3=(p7,[],[]))
   (hp8:wantP p7 [] 1 1=(p8,[],[⟨2,3,4,0,1,0⟩]))
   (hp9:gotP p8 [] 1 4=(p9,[],[]))
   (hp10:wantP p9 [] 1 2=(p10,[],[⟨3,3,5,0,1,0⟩]))
   (hp11:gotP p10 [] 1 5=(p11,[],[]))
   (hp12:askI p11 [] 3 3=(p12,[],[⟨5,1,6,0,0,0⟩]))
   (hp13:wroteP p12 [] 1 5 9=(p13,[],[⟨6,3,0,0,0,9⟩]))
   (hq1:wantP q0 [] 6 2=(q1,[],Oq1))
   (hq2:gotP q1 [] 6 1=(q2,[],Oq2))
   (hq3:wantP q2 [] 3 1=(q3,[],Oq3))
   (hq4:gotP q3 [] 3 2=(q4,[],Oq4))
   (hq5:wantP q4 [] 5 1=(q5,[],Oq5))
   (hq6:gotP q5 [] 5 3=(q6,[],Oq6))
   (hq7:wantP q6 [] 3 2=(q7,[],[⟨4,5,4,0,0,0⟩]))
   (hq8:wroteP q7 [] 6 3 1=(q8,[],[]))
   (hq9:goneP q8 [] 5 4=(q9,[],[⟨4,6,4,0,0,0⟩]))
   (hq10:goneP q9 [] 6 4=(q10,[],[⟨1,3,4,2,0,0⟩]))
   (hp14:wantP p13 [] 2 1=(p14,[],[⟨2,1,7,0,2,0⟩]))
   (hp15:relP p14 [] 1 5=(p15,[],[⟨1,2,8,1,0,0⟩]))
   (hE9:p9.ex= -1) (hOw9:p9.ow=3) (hL9:(lst p9.shd).length=2) (hI1:p13.busy=false) (hI2:p15.busy=true):Calls Try.prog 9 #[] w fun e w'=>e= .returned (.bool true)∧Kept [] w w':=by
 have hhp1:=hide hp1
 have hhp2:=hide hp2
 have hhp3:=hide hp3
 have hhp4:=hide hp4
 have hhp5:=hide hp5
 have hhp6:=hide hp6
 have hhp7:=hide hp7
 have hhp8:=hide hp8
 have hhp9:=hide hp9
 have hhp10:=hide hp10
 have hhp11:=hide hp11
 have hhp12:=hide hp12
 have hhp13:=hide hp13
 have hhq1:=hide hq1
 have hhq2:=hide hq2
 have hhq3:=hide hq3
 have hhq4:=hide hq4
 have hhq5:=hide hq5
 have hhq6:=hide hq6
 have hhq7:=hide hq7
 have hhq8:=hide hq8
 have hhq9:=hide hq9
 have hhq10:=hide hq10
 have hhp14:=hide hp14
 have hhp15:=hide hp15
 have Hp0:=hide hp0
 have Hq0:=hide hq0
 have HE9:=hide hE9
 have HOw9:=hide hOw9
 have HL9:=hide hL9
 have HI1:=hide hI1
 have HI2:=hide hI2
 clear hp0 hq0 hE9 hOw9 hL9 hI1 hI2 hp1 hp2 hp3 hp4 hp5 hp6 hp7 hp8 hp9 hp10 hp11 hp12 hp13 hq1 hq2 hq3 hq4 hq5 hq6 hq7 hq8 hq9 hq10 hp14 hp15
 go_enter Try.func9,Try.ntmps9
 go_wp2_with (first |(go_at_call 10;refine(kl_new _).mono ?_;rintro e W1 ⟨bp,rfl,eb1,K1⟩;have HP:Hid (Kl 0 w W1 bp p0 []):=hide (by rw [unhide Hp0];exact K1);clear eb1 K1;refine Stp.go ?_))
 constructor
 go_wp2_with (first |(go_at_call 20;refine(kl_want (unhide HP) (by decide) 1 1).mono ?_;rintro e W2 ⟨v2,rfl,N2,K2⟩;rw [unhide hhp1] at N2 K2;have HO2:=hide N2;replace HP:Hid (Kl 1 w W2 bp p1 []):=hide K2;clear N2 K2 hhp1;refine Stp.go ?_))
 constructor
 go_wp2_with (first |(go_at_call 28;refine(order28 ⟨1,1,1,1,0,0⟩ _).mono ?_;rintro e W3 ⟨rfl,K3⟩;replace HP:Hid (Kl 1 w W3 bp p1 []):=hide ((unhide HP).step K3);replace HO2:Hid (Ou W1 W3 v2 [⟨1,1,1,1,0,0⟩]):=(unhide HO2).kept K3 (by simp);clear K3;refine Stp.go ?_))
 constructor
 go_wp2_with (first |(refine wpBs28G (.tmp 7) rfl rfl ⟨1,1,1,1,0,0⟩ rfl ?_;intro W4 g4 e4 B4 K4;have HG4:=hide B4;replace HP:Hid (Kl 1 w W4 bp p1 []):=hide ((unhide HP).step K4);replace HO2:Hid (Ou W1 W4 v2 [⟨1,1,1,1,0,0⟩]):=(unhide HO2).kept K4 (by simp);clear e4 B4 K4;refine Stp.go ?_))
 constructor
 go_wp2_with (first |(go_at_call 27;refine(is27t [⟨1,1,1,1,0,0⟩] v2 _ _ (unhide HO2).row (Os.one (unhide HG4)) (by decide)).mono ?_;rintro e W5 ⟨rfl,K5⟩;replace HP:Hid (Kl 1 w W5 bp p1 []):=hide ((unhide HP).step K5);clear K5 HO2 HG4;refine Stp.go ?_))
 constructor
 go_wp2_with (first |(go_at_call 29;refine(kl_got (unhide HP) (by decide) 1 1).mono ?_;rintro e W6 ⟨v6,rfl,N6,K6⟩;rw [unhide hhp2] at N6 K6;have HO6:=hide N6;replace HP:Hid (Kl 2 w W6 bp p2 []):=hide K6;clear N6 K6 hhp2;refine Stp.go ?_))
 constructor
 go_wp2_with (first |(go_at_call 27;refine(is27t [] v6 _ _ (unhide HO6).row (Rw.nil _) (by decide)).mono ?_;rintro e W7 ⟨rfl,K7⟩;replace HP:Hid (Kl 2 w W7 bp p2 []):=hide ((unhide HP).step K7);clear K7 HO6;refine Stp.go ?_))
 constructor
 go_wp2_with (first |(go_at_call 20;refine(kl_want (unhide HP) (by decide) 2 1).mono ?_;rintro e W8 ⟨v8,rfl,N8,K8⟩;rw [unhide hhp3] at N8 K8;have HO8:=hide N8;replace HP:Hid (Kl 3 w W8 bp p3 []):=hide K8;clear N8 K8 hhp3;refine Stp.go ?_))
 constructor
 go_wp2_with (first |(go_at_call 28;refine(order28 ⟨2,1,2,0,2,0⟩ _).mono ?_;rintro e W9 ⟨rfl,K9⟩;replace HP:Hid (Kl 3 w W9 bp p3 []):=hide ((unhide HP).step K9);replace HO8:Hid (Ou W7 W9 v8 [⟨2,1,2,0,2,0⟩]):=(unhide HO8).kept K9 (by simp);clear K9;refine Stp.go ?_))
 constructor
 go_wp2_with (first |(refine wpBs28G (.tmp 20) rfl rfl ⟨2,1,2,0,2,0⟩ rfl ?_;intro W10 g10 e10 B10 K10;have HG10:=hide B10;replace HP:Hid (Kl 3 w W10 bp p3 []):=hide ((unhide HP).step K10);replace HO8:Hid (Ou W7 W10 v8 [⟨2,1,2,0,2,0⟩]):=(unhide HO8).kept K10 (by simp);clear e10 B10 K10;refine Stp.go ?_))
 constructor
 go_wp2_with (first |(go_at_call 27;refine(is27t [⟨2,1,2,0,2,0⟩] v8 _ _ (unhide HO8).row (Os.one (unhide HG10)) (by decide)).mono ?_;rintro e W11 ⟨rfl,K11⟩;replace HP:Hid (Kl 3 w W11 bp p3 []):=hide ((unhide HP).step K11);clear K11 HO8 HG10;refine Stp.go ?_))
 constructor
 go_wp2_with (first |(go_at_call 29;refine(kl_got (unhide HP) (by decide) 2 2).mono ?_;rintro e W12 ⟨v12,rfl,N12,K12⟩;rw [unhide hhp4] at N12 K12;have HO12:=hide N12;replace HP:Hid (Kl 4 w W12 bp p4 []):=hide K12;clear N12 K12 hhp4;refine Stp.go ?_))
 constructor
 go_wp2_with (first |(go_at_call 27;refine(is27t [] v12 _ _ (unhide HO12).row (Rw.nil _) (by decide)).mono ?_;rintro e W13 ⟨rfl,K13⟩;replace HP:Hid (Kl 4 w W13 bp p4 []):=hide ((unhide HP).step K13);clear K13 HO12;refine Stp.go ?_))
 constructor
 go_wp2_with (first |(go_at_call 20;refine(kl_want (unhide HP) (by decide) 3 2).mono ?_;rintro e W14 ⟨v14,rfl,N14,K14⟩;rw [unhide hhp5] at N14 K14;have HO14:=hide N14;replace HP:Hid (Kl 5 w W14 bp p5 []):=hide K14;clear N14 K14 hhp5;refine Stp.go ?_))
 constructor
 go_wp2_with (first |(go_at_call 28;refine(order28 ⟨4,2,3,0,0,0⟩ _).mono ?_;rintro e W15 ⟨rfl,K15⟩;replace HP:Hid (Kl 5 w W15 bp p5 []):=hide ((unhide HP).step K15);replace HO14:Hid (Ou W13 W15 v14 [⟨4,2,3,0,0,0⟩]):=(unhide HO14).kept K15 (by simp);clear K15;refine Stp.go ?_))
 constructor
 go_wp2_with (first |(refine wpBs28G (.tmp 33) rfl rfl ⟨4,2,3,0,0,0⟩ rfl ?_;intro W16 g16 e16 B16 K16;have HG16:=hide B16;replace HP:Hid (Kl 5 w W16 bp p5 []):=hide ((unhide HP).step K16);replace HO14:Hid (Ou W13 W16 v14 [⟨4,2,3,0,0,0⟩]):=(unhide HO14).kept K16 (by simp);clear e16 B16 K16;refine Stp.go ?_))
 constructor
 go_wp2_with (first |(go_at_call 27;refine(is27t [⟨4,2,3,0,0,0⟩] v14 _ _ (unhide HO14).row (Os.one (unhide HG16)) (by decide)).mono ?_;rintro e W17 ⟨rfl,K17⟩;replace HP:Hid (Kl 5 w W17 bp p5 []):=hide ((unhide HP).step K17);clear K17 HO14 HG16;refine Stp.go ?_))
 constructor
 go_wp2_with (first |(go_at_call 30;refine(kl_gone (unhide HP) (by decide) 2 3).mono ?_;rintro e W18 ⟨v18,rfl,N18,K18⟩;rw [unhide hhp6] at N18 K18;have HO18:=hide N18;replace HP:Hid (Kl 6 w W18 bp p6 []):=hide K18;clear N18 K18 hhp6;refine Stp.go ?_))
 constructor
 go_wp2_with (first |(go_at_call 28;refine(order28 ⟨3,1,3,0,3,0⟩ _).mono ?_;rintro e W19 ⟨rfl,K19⟩;replace HP:Hid (Kl 6 w W19 bp p6 []):=hide ((unhide HP).step K19);replace HO18:Hid (Ou W17 W19 v18 [⟨3,1,3,0,3,0⟩]):=(unhide HO18).kept K19 (by simp);clear K19;refine Stp.go ?_))
 constructor
 go_wp2_with (first |(refine wpBs28G (.tmp 40) rfl rfl ⟨3,1,3,0,3,0⟩ rfl ?_;intro W20 g20 e20 B20 K20;have HG20:=hide B20;replace HP:Hid (Kl 6 w W20 bp p6 []):=hide ((unhide HP).step K20);replace HO18:Hid (Ou W17 W20 v18 [⟨3,1,3,0,3,0⟩]):=(unhide HO18).kept K20 (by simp);clear e20 B20 K20;refine Stp.go ?_))
 constructor
 go_wp2_with (first |(go_at_call 27;refine(is27t [⟨3,1,3,0,3,0⟩] v18 _ _ (unhide HO18).row (Os.one (unhide HG20)) (by decide)).mono ?_;rintro e W21 ⟨rfl,K21⟩;replace HP:Hid (Kl 6 w W21 bp p6 []):=hide ((unhide HP).step K21);clear K21 HO18 HG20;refine Stp.go ?_))
 constructor
 go_wp2_with (first |(go_at_call 29;refine(kl_got (unhide HP) (by decide) 3 3).mono ?_;rintro e W22 ⟨v22,rfl,N22,K22⟩;rw [unhide hhp7] at N22 K22;have HO22:=hide N22;replace HP:Hid (Kl 7 w W22 bp p7 []):=hide K22;clear N22 K22 hhp7;refine Stp.go ?_))
 constructor
 go_wp2_with (first |(go_at_call 27;refine(is27t [] v22 _ _ (unhide HO22).row (Rw.nil _) (by decide)).mono ?_;rintro e W23 ⟨rfl,K23⟩;replace HP:Hid (Kl 7 w W23 bp p7 []):=hide ((unhide HP).step K23);clear K23 HO22;refine Stp.go ?_))
 constructor
 go_wp2_with (first |(go_at_call 20;refine(kl_want (unhide HP) (by decide) 1 1).mono ?_;rintro e W24 ⟨v24,rfl,N24,K24⟩;rw [unhide hhp8] at N24 K24;have HO24:=hide N24;replace HP:Hid (Kl 8 w W24 bp p8 []):=hide K24;clear N24 K24 hhp8;refine Stp.go ?_))
 constructor
 go_wp2_with (first |(go_at_call 28;refine(order28 ⟨2,3,4,0,1,0⟩ _).mono ?_;rintro e W25 ⟨rfl,K25⟩;replace HP:Hid (Kl 8 w W25 bp p8 []):=hide ((unhide HP).step K25);replace HO24:Hid (Ou W23 W25 v24 [⟨2,3,4,0,1,0⟩]):=(unhide HO24).kept K25 (by simp);clear K25;refine Stp.go ?_))
 constructor
 go_wp2_with (first |(refine wpBs28G (.tmp 54) rfl rfl ⟨2,3,4,0,1,0⟩ rfl ?_;intro W26 g26 e26 B26 K26;have HG26:=hide B26;replace HP:Hid (Kl 8 w W26 bp p8 []):=hide ((unhide HP).step K26);replace HO24:Hid (Ou W23 W26 v24 [⟨2,3,4,0,1,0⟩]):=(unhide HO24).kept K26 (by simp);clear e26 B26 K26;refine Stp.go ?_))
 constructor
 go_wp2_with (first |(go_at_call 27;refine(is27t [⟨2,3,4,0,1,0⟩] v24 _ _ (unhide HO24).row (Os.one (unhide HG26)) (by decide)).mono ?_;rintro e W27 ⟨rfl,K27⟩;replace HP:Hid (Kl 8 w W27 bp p8 []):=hide ((unhide HP).step K27);clear K27 HO24 HG26;refine Stp.go ?_))
 constructor
 go_wp2_with (first |(go_at_call 29;refine(kl_got (unhide HP) (by decide) 1 4).mono ?_;rintro e W28 ⟨v28,rfl,N28,K28⟩;rw [unhide hhp9] at N28 K28;have HO28:=hide N28;replace HP:Hid (Kl 9 w W28 bp p9 []):=hide K28;clear N28 K28 hhp9;refine Stp.go ?_))
 constructor
 go_wp2_with (first |(go_at_call 27;refine(is27t [] v28 _ _ (unhide HO28).row (Rw.nil _) (by decide)).mono ?_;rintro e W29 ⟨rfl,K29⟩;replace HP:Hid (Kl 9 w W29 bp p9 []):=hide ((unhide HP).step K29);clear K29 HO28;refine Stp.go ?_))
 constructor
 go_wp2_with (first |(go_at_call 15;refine(kl_book (unhide HP) (by decide)).mono ?_;rintro e W30 ⟨bx,bY,bz,rfl,Bk30,K30⟩;have HBk:=hide Bk30;replace HP:Hid (Kl 9 w W30 bp p9 []):=hide K30;clear Bk30 K30;refine Stp.go ?_))
 constructor
 go_wp2_with (first |(refine wpNew row43 bz43 rfl zero43 2 rfl rfl rfl (.tmp 66) rfl rfl rfl ((Lo.book p9 []).C bx bY bz) rfl (BoC_one (unhide HBk)) (by kernel_rfl) (by kernel_rfl) ?_;intro W31 b2 e31 B31 K31;replace HP:Hid (Kl 9 w W31 bp p9 []):=hide ((unhide HP).step K31);have cb0:W31.cell? ⟨b2,0,none⟩=some (.int .i64 (-1)):=(by have h9:=fits_cell B31 0 _ rfl;rw [show (Lo.book p9 []).ex= -1 from unhide HE9] at h9;exact h9);have cb1:W31.cell? ⟨b2,1,none⟩=some (.int .i64 3):=(by have h9:=fits_cell B31 1 _ rfl;rw [show (Lo.book p9 []).ow=3 from unhide HOw9] at h9;exact h9);have cb2:W31.cell? ⟨b2,2,none⟩=some bx:=fits_cell B31 2 _ rfl;obtain⟨ax,cx,hbx,_,_⟩:=(unhide HBk).sh.row.sl;rw [show (Lo.book p9 []).sh.length=2 from unhide HL9] at hbx;rw [hbx] at cb2;clear e31 B31 K31 hbx;refine Stp.go ?_))
 constructor
 go_wp2_with (first |(go_at_call 20;refine(kl_want (unhide HP) (by decide) 1 2).mono ?_;rintro e W32 ⟨v32,rfl,N32,K32⟩;rw [unhide hhp10] at N32 K32;have HO32:=hide N32;replace HP:Hid (Kl 10 w W32 bp p10 []):=hide K32;clear N32 K32 hhp10;refine Stp.go ?_))
 constructor
 go_wp2_with (first |(go_at_call 28;refine(order28 ⟨3,3,5,0,1,0⟩ _).mono ?_;rintro e W33 ⟨rfl,K33⟩;replace HP:Hid (Kl 10 w W33 bp p10 []):=hide ((unhide HP).step K33);replace HO32:Hid (Ou W31 W33 v32 [⟨3,3,5,0,1,0⟩]):=(unhide HO32).kept K33 (by simp);clear K33;refine Stp.go ?_))
 constructor
 go_wp2_with (first |(refine wpBs28G (.tmp 84) rfl rfl ⟨3,3,5,0,1,0⟩ rfl ?_;intro W34 g34 e34 B34 K34;have HG34:=hide B34;replace HP:Hid (Kl 10 w W34 bp p10 []):=hide ((unhide HP).step K34);replace HO32:Hid (Ou W31 W34 v32 [⟨3,3,5,0,1,0⟩]):=(unhide HO32).kept K34 (by simp);clear e34 B34 K34;refine Stp.go ?_))
 constructor
 go_wp2_with (first |(go_at_call 27;refine(is27t [⟨3,3,5,0,1,0⟩] v32 _ _ (unhide HO32).row (Os.one (unhide HG34)) (by decide)).mono ?_;rintro e W35 ⟨rfl,K35⟩;replace HP:Hid (Kl 10 w W35 bp p10 []):=hide ((unhide HP).step K35);clear K35 HO32 HG34;refine Stp.go ?_))
 constructor
 go_wp2_with (first |(go_at_call 29;refine(kl_got (unhide HP) (by decide) 1 5).mono ?_;rintro e W36 ⟨v36,rfl,N36,K36⟩;rw [unhide hhp11] at N36 K36;have HO36:=hide N36;replace HP:Hid (Kl 11 w W36 bp p11 []):=hide K36;clear N36 K36 hhp11;refine Stp.go ?_))
 constructor
 go_wp2_with (first |(go_at_call 27;refine(is27t [] v36 _ _ (unhide HO36).row (Rw.nil _) (by decide)).mono ?_;rintro e W37 ⟨rfl,K37⟩;replace HP:Hid (Kl 11 w W37 bp p11 []):=hide ((unhide HP).step K37);clear K37 HO36;refine Stp.go ?_))
 constructor
 go_wp2_with (first |(go_at_call 21;refine(kl_clean (unhide HP) (by decide) 3).mono ?_;rintro e W38 ⟨v38,rfl,N38,K38⟩;rw [unhide hhp12] at N38 K38;have HO38:=hide N38;replace HP:Hid (Kl 12 w W38 bp p12 []):=hide K38;clear N38 K38 hhp12;refine Stp.go ?_))
 constructor
 go_wp2_with (first |(go_at_call 28;refine(order28 ⟨5,1,6,0,0,0⟩ _).mono ?_;rintro e W39 ⟨rfl,K39⟩;replace HP:Hid (Kl 12 w W39 bp p12 []):=hide ((unhide HP).step K39);replace HO38:Hid (Ou W37 W39 v38 [⟨5,1,6,0,0,0⟩]):=(unhide HO38).kept K39 (by simp);clear K39;refine Stp.go ?_))
 constructor
 go_wp2_with (first |(refine wpBs28G (.tmp 98) rfl rfl ⟨5,1,6,0,0,0⟩ rfl ?_;intro W40 g40 e40 B40 K40;have HG40:=hide B40;replace HP:Hid (Kl 12 w W40 bp p12 []):=hide ((unhide HP).step K40);replace HO38:Hid (Ou W37 W40 v38 [⟨5,1,6,0,0,0⟩]):=(unhide HO38).kept K40 (by simp);clear e40 B40 K40;refine Stp.go ?_))
 constructor
 go_wp2_with (first |(go_at_call 27;refine(is27t [⟨5,1,6,0,0,0⟩] v38 _ _ (unhide HO38).row (Os.one (unhide HG40)) (by decide)).mono ?_;rintro e W41 ⟨rfl,K41⟩;replace HP:Hid (Kl 12 w W41 bp p12 []):=hide ((unhide HP).step K41);clear K41 HO38 HG40;refine Stp.go ?_))
 constructor
 go_wp2_with (first |(go_at_call 31;refine(kl_wrote (unhide HP) (by decide) 1 5 9).mono ?_;rintro e W42 ⟨v42,rfl,N42,K42⟩;rw [unhide hhp13] at N42 K42;have HO42:=hide N42;replace HP:Hid (Kl 13 w W42 bp p13 []):=hide K42;clear N42 K42 hhp13;refine Stp.go ?_))
 constructor
 go_wp2_with (first |(go_at_call 28;refine(order28 ⟨6,3,0,0,0,9⟩ _).mono ?_;rintro e W43 ⟨rfl,K43⟩;replace HP:Hid (Kl 13 w W43 bp p13 []):=hide ((unhide HP).step K43);replace HO42:Hid (Ou W41 W43 v42 [⟨6,3,0,0,0,9⟩]):=(unhide HO42).kept K43 (by simp);clear K43;refine Stp.go ?_))
 constructor
 go_wp2_with (first |(refine wpBs28G (.tmp 106) rfl rfl ⟨6,3,0,0,0,9⟩ rfl ?_;intro W44 g44 e44 B44 K44;have HG44:=hide B44;replace HP:Hid (Kl 13 w W44 bp p13 []):=hide ((unhide HP).step K44);replace HO42:Hid (Ou W41 W44 v42 [⟨6,3,0,0,0,9⟩]):=(unhide HO42).kept K44 (by simp);clear e44 B44 K44;refine Stp.go ?_))
 constructor
 go_wp2_with (first |(go_at_call 27;refine(is27t [⟨6,3,0,0,0,9⟩] v42 _ _ (unhide HO42).row (Os.one (unhide HG44)) (by decide)).mono ?_;rintro e W45 ⟨rfl,K45⟩;replace HP:Hid (Kl 13 w W45 bp p13 []):=hide ((unhide HP).step K45);clear K45 HO42 HG44;refine Stp.go ?_))
 constructor
 go_wp2_with (first |(go_at_call 10;refine(kl_new _).mono ?_;rintro e W46 ⟨bq,rfl,eb46,K46⟩;have HQ:Hid (Kl 0 W45 W46 bq q0 []):=hide (by rw [unhide Hq0];exact K46);clear eb46 K46;refine Stp.go ?_))
 constructor
 go_wp2_with (first |(go_at_call 20;refine(kl_want (unhide HQ) (by decide) 6 2).mono ?_;rintro e W47 ⟨v47,rfl,N47,K47⟩;rw [unhide hhq1] at N47 K47;have HO47:=hide N47;have HKq47:Hid (Kept [] W45 W47):=(by have h1:=K47.kept;exact h1);replace HQ:Hid (Kl 1 W45 W47 bq q1 []):=hide K47;clear N47 K47 hhq1;clear HO47;refine Stp.go ?_))
 constructor
 go_wp2_with (first |(go_at_call 29;refine(kl_got (unhide HQ) (by decide) 6 1).mono ?_;rintro e W48 ⟨v48,rfl,N48,K48⟩;rw [unhide hhq2] at N48 K48;have HO48:=hide N48;have HKq48:Hid (Kept [] W45 W48):=(by have h1:=K48.kept;exact h1);replace HQ:Hid (Kl 2 W45 W48 bq q2 []):=hide K48;clear N48 K48 hhq2;clear HO48;refine Stp.go ?_))
 constructor
 go_wp2_with (first |(go_at_call 20;refine(kl_want (unhide HQ) (by decide) 3 1).mono ?_;rintro e W49 ⟨v49,rfl,N49,K49⟩;rw [unhide hhq3] at N49 K49;have HO49:=hide N49;have HKq49:Hid (Kept [] W45 W49):=(by have h1:=K49.kept;exact h1);replace HQ:Hid (Kl 3 W45 W49 bq q3 []):=hide K49;clear N49 K49 hhq3;clear HO49;refine Stp.go ?_))
 constructor
 go_wp2_with (first |(go_at_call 29;refine(kl_got (unhide HQ) (by decide) 3 2).mono ?_;rintro e W50 ⟨v50,rfl,N50,K50⟩;rw [unhide hhq4] at N50 K50;have HO50:=hide N50;have HKq50:Hid (Kept [] W45 W50):=(by have h1:=K50.kept;exact h1);replace HQ:Hid (Kl 4 W45 W50 bq q4 []):=hide K50;clear N50 K50 hhq4;clear HO50;refine Stp.go ?_))
 constructor
 go_wp2_with (first |(go_at_call 20;refine(kl_want (unhide HQ) (by decide) 5 1).mono ?_;rintro e W51 ⟨v51,rfl,N51,K51⟩;rw [unhide hhq5] at N51 K51;have HO51:=hide N51;have HKq51:Hid (Kept [] W45 W51):=(by have h1:=K51.kept;exact h1);replace HQ:Hid (Kl 5 W45 W51 bq q5 []):=hide K51;clear N51 K51 hhq5;clear HO51;refine Stp.go ?_))
 constructor
 go_wp2_with (first |(go_at_call 29;refine(kl_got (unhide HQ) (by decide) 5 3).mono ?_;rintro e W52 ⟨v52,rfl,N52,K52⟩;rw [unhide hhq6] at N52 K52;have HO52:=hide N52;have HKq52:Hid (Kept [] W45 W52):=(by have h1:=K52.kept;exact h1);replace HQ:Hid (Kl 6 W45 W52 bq q6 []):=hide K52;clear N52 K52 hhq6;clear HO52;refine Stp.go ?_))
 constructor
 go_wp2_with (first |(go_at_call 20;refine(kl_want (unhide HQ) (by decide) 3 2).mono ?_;rintro e W53 ⟨v53,rfl,N53,K53⟩;rw [unhide hhq7] at N53 K53;have HO53:=hide N53;have HKq53:Hid (Kept [] W45 W53):=(by have h1:=K53.kept;exact h1);replace HQ:Hid (Kl 7 W45 W53 bq q7 []):=hide K53;clear N53 K53 hhq7;refine Stp.go ?_))
 constructor
 go_wp2_with (first |(go_at_call 28;refine(order28 ⟨4,5,4,0,0,0⟩ _).mono ?_;rintro e W54 ⟨rfl,K54⟩;replace HQ:Hid (Kl 7 W45 W54 bq q7 []):=hide ((unhide HQ).step K54);replace HO53:Hid (Ou W52 W54 v53 [⟨4,5,4,0,0,0⟩]):=(unhide HO53).kept K54 (by simp);clear K54;refine Stp.go ?_))
 constructor
 go_wp2_with (first |(refine wpBs28G (.tmp 126) rfl rfl ⟨4,5,4,0,0,0⟩ rfl ?_;intro W55 g55 e55 B55 K55;have HG55:=hide B55;replace HQ:Hid (Kl 7 W45 W55 bq q7 []):=hide ((unhide HQ).step K55);replace HO53:Hid (Ou W52 W55 v53 [⟨4,5,4,0,0,0⟩]):=(unhide HO53).kept K55 (by simp);clear e55 B55 K55;refine Stp.go ?_))
 constructor
 go_wp2_with (first |(go_at_call 27;refine(is27t [⟨4,5,4,0,0,0⟩] v53 _ _ (unhide HO53).row (Os.one (unhide HG55)) (by decide)).mono ?_;rintro e W56 ⟨rfl,K56⟩;replace HQ:Hid (Kl 7 W45 W56 bq q7 []):=hide ((unhide HQ).step K56);clear K56 HO53 HG55;refine Stp.go ?_))
 constructor
 go_wp2_with (first |(go_at_call 31;refine(kl_wrote (unhide HQ) (by decide) 6 3 1).mono ?_;rintro e W57 ⟨v57,rfl,N57,K57⟩;rw [unhide hhq8] at N57 K57;have HO57:=hide N57;have HKq57:Hid (Kept [] W45 W57):=(by have h1:=K57.kept;exact h1);replace HQ:Hid (Kl 8 W45 W57 bq q8 []):=hide K57;clear N57 K57 hhq8;refine Stp.go ?_))
 constructor
 go_wp2_with (first |(go_at_call 27;refine(is27t [] v57 _ _ (unhide HO57).row (Rw.nil _) (by decide)).mono ?_;rintro e W58 ⟨rfl,K58⟩;replace HQ:Hid (Kl 8 W45 W58 bq q8 []):=hide ((unhide HQ).step K58);clear K58 HO57;refine Stp.go ?_))
 constructor
 go_wp2_with (first |(go_at_call 30;refine(kl_gone (unhide HQ) (by decide) 5 4).mono ?_;rintro e W59 ⟨v59,rfl,N59,K59⟩;rw [unhide hhq9] at N59 K59;have HO59:=hide N59;have HKq59:Hid (Kept [] W45 W59):=(by have h1:=K59.kept;exact h1);replace HQ:Hid (Kl 9 W45 W59 bq q9 []):=hide K59;clear N59 K59 hhq9;refine Stp.go ?_))
 constructor
 go_wp2_with (first |(go_at_call 28;refine(order28 ⟨4,6,4,0,0,0⟩ _).mono ?_;rintro e W60 ⟨rfl,K60⟩;replace HQ:Hid (Kl 9 W45 W60 bq q9 []):=hide ((unhide HQ).step K60);replace HO59:Hid (Ou W58 W60 v59 [⟨4,6,4,0,0,0⟩]):=(unhide HO59).kept K60 (by simp);clear K60;refine Stp.go ?_))
 constructor
 go_wp2_with (first |(refine wpBs28G (.tmp 139) rfl rfl ⟨4,6,4,0,0,0⟩ rfl ?_;intro W61 g61 e61 B61 K61;have HG61:=hide B61;replace HQ:Hid (Kl 9 W45 W61 bq q9 []):=hide ((unhide HQ).step K61);replace HO59:Hid (Ou W58 W61 v59 [⟨4,6,4,0,0,0⟩]):=(unhide HO59).kept K61 (by simp);clear e61 B61 K61;refine Stp.go ?_))
 constructor
 go_wp2_with (first |(go_at_call 27;refine(is27t [⟨4,6,4,0,0,0⟩] v59 _ _ (unhide HO59).row (Os.one (unhide HG61)) (by decide)).mono ?_;rintro e W62 ⟨rfl,K62⟩;replace HQ:Hid (Kl 9 W45 W62 bq q9 []):=hide ((unhide HQ).step K62);clear K62 HO59 HG61;refine Stp.go ?_))
 constructor
 go_wp2_with (first |(go_at_call 30;refine(kl_gone (unhide HQ) (by decide) 6 4).mono ?_;rintro e W63 ⟨v63,rfl,N63,K63⟩;rw [unhide hhq10] at N63 K63;have HO63:=hide N63;have HKq63:Hid (Kept [] W45 W63):=(by have h1:=K63.kept;exact h1);replace HQ:Hid (Kl 10 W45 W63 bq q10 []):=hide K63;clear N63 K63 hhq10;refine Stp.go ?_))
 constructor
 go_wp2_with (first |(go_at_call 28;refine(order28 ⟨1,3,4,2,0,0⟩ _).mono ?_;rintro e W64 ⟨rfl,K64⟩;replace HQ:Hid (Kl 10 W45 W64 bq q10 []):=hide ((unhide HQ).step K64);replace HO63:Hid (Ou W62 W64 v63 [⟨1,3,4,2,0,0⟩]):=(unhide HO63).kept K64 (by simp);clear K64;refine Stp.go ?_))
 constructor
 go_wp2_with (first |(refine wpBs28G (.tmp 147) rfl rfl ⟨1,3,4,2,0,0⟩ rfl ?_;intro W65 g65 e65 B65 K65;have HG65:=hide B65;replace HQ:Hid (Kl 10 W45 W65 bq q10 []):=hide ((unhide HQ).step K65);replace HO63:Hid (Ou W62 W65 v63 [⟨1,3,4,2,0,0⟩]):=(unhide HO63).kept K65 (by simp);clear e65 B65 K65;refine Stp.go ?_))
 constructor
 go_wp2_with (first |(go_at_call 27;refine(is27t [⟨1,3,4,2,0,0⟩] v63 _ _ (unhide HO63).row (Os.one (unhide HG65)) (by decide)).mono ?_;rintro e W66 ⟨rfl,K66⟩;replace HQ:Hid (Kl 10 W45 W66 bq q10 []):=hide ((unhide HQ).step K66);clear K66 HO63 HG65;replace HP:Hid (Kl 13 w W66 bp p13 []):=hide ((unhide HP).step (unhide HQ).kept);clear HQ;refine Stp.go ?_))
 constructor
 go_wp2_with (first |(go_at_call 17;refine(kl_idle (unhide HP)).mono ?_;rintro e W67 ⟨rfl,q67⟩;replace q67:=q67.symm;subst q67;rw [show Lo.busy p13=false from unhide HI1];refine Stp.go ?_))
 constructor
 go_wp2_with (first |(go_at_call 20;refine(kl_want (unhide HP) (by decide) 2 1).mono ?_;rintro e W68 ⟨v68,rfl,N68,K68⟩;rw [unhide hhp14] at N68 K68;have HO68:=hide N68;replace HP:Hid (Kl 14 w W68 bp p14 []):=hide K68;clear N68 K68 hhp14;refine Stp.go ?_))
 constructor
 go_wp2_with (first |(go_at_call 28;refine(order28 ⟨2,1,7,0,2,0⟩ _).mono ?_;rintro e W69 ⟨rfl,K69⟩;replace HP:Hid (Kl 14 w W69 bp p14 []):=hide ((unhide HP).step K69);replace HO68:Hid (Ou W66 W69 v68 [⟨2,1,7,0,2,0⟩]):=(unhide HO68).kept K69 (by simp);clear K69;refine Stp.go ?_))
 constructor
 go_wp2_with (first |(refine wpBs28G (.tmp 157) rfl rfl ⟨2,1,7,0,2,0⟩ rfl ?_;intro W70 g70 e70 B70 K70;have HG70:=hide B70;replace HP:Hid (Kl 14 w W70 bp p14 []):=hide ((unhide HP).step K70);replace HO68:Hid (Ou W66 W70 v68 [⟨2,1,7,0,2,0⟩]):=(unhide HO68).kept K70 (by simp);clear e70 B70 K70;refine Stp.go ?_))
 constructor
 go_wp2_with (first |(go_at_call 27;refine(is27t [⟨2,1,7,0,2,0⟩] v68 _ _ (unhide HO68).row (Os.one (unhide HG70)) (by decide)).mono ?_;rintro e W71 ⟨rfl,K71⟩;replace HP:Hid (Kl 14 w W71 bp p14 []):=hide ((unhide HP).step K71);clear K71 HO68 HG70;refine Stp.go ?_))
 constructor
 go_wp2_with (first |(go_at_call 22;refine(kl_rel (unhide HP) (by decide) 1 5).mono ?_;rintro e W72 ⟨v72,rfl,N72,K72⟩;rw [unhide hhp15] at N72 K72;have HO72:=hide N72;replace HP:Hid (Kl 15 w W72 bp p15 []):=hide K72;clear N72 K72 hhp15;refine Stp.go ?_))
 constructor
 go_wp2_with (first |(go_at_call 28;refine(order28 ⟨1,2,8,1,0,0⟩ _).mono ?_;rintro e W73 ⟨rfl,K73⟩;replace HP:Hid (Kl 15 w W73 bp p15 []):=hide ((unhide HP).step K73);replace HO72:Hid (Ou W71 W73 v72 [⟨1,2,8,1,0,0⟩]):=(unhide HO72).kept K73 (by simp);clear K73;refine Stp.go ?_))
 constructor
 go_wp2_with (first |(refine wpBs28G (.tmp 164) rfl rfl ⟨1,2,8,1,0,0⟩ rfl ?_;intro W74 g74 e74 B74 K74;have HG74:=hide B74;replace HP:Hid (Kl 15 w W74 bp p15 []):=hide ((unhide HP).step K74);replace HO72:Hid (Ou W71 W74 v72 [⟨1,2,8,1,0,0⟩]):=(unhide HO72).kept K74 (by simp);clear e74 B74 K74;refine Stp.go ?_))
 constructor
 go_wp2_with (first |(go_at_call 27;refine(is27t [⟨1,2,8,1,0,0⟩] v72 _ _ (unhide HO72).row (Os.one (unhide HG74)) (by decide)).mono ?_;rintro e W75 ⟨rfl,K75⟩;replace HP:Hid (Kl 15 w W75 bp p15 []):=hide ((unhide HP).step K75);clear K75 HO72 HG74;refine Stp.go ?_))
 constructor
 go_wp2_with (first |(go_at_call 17;refine(kl_idle (unhide HP)).mono ?_;rintro e W76 ⟨rfl,q76⟩;replace q76:=q76.symm;subst q76;rw [show Lo.busy p15=true from unhide HI2];refine Stp.go ?_))
 constructor
 go_wp2_with fail
 go_ret
 exact⟨rfl,(unhide HP).kept⟩
def Kp0:Lo:=lo0
def Kq0:Lo:=lo0
def Kp1:Lo:=(wantP Kp0 [] 1 1).1
def Kp2:Lo:=(gotP Kp1 [] 1 1).1
def Kp3:Lo:=(wantP Kp2 [] 2 1).1
def Kp4:Lo:=(gotP Kp3 [] 2 2).1
def Kp5:Lo:=(wantP Kp4 [] 3 2).1
def Kp6:Lo:=(goneP Kp5 [] 2 3).1
def Kp7:Lo:=(gotP Kp6 [] 3 3).1
def Kp8:Lo:=(wantP Kp7 [] 1 1).1
def Kp9:Lo:=(gotP Kp8 [] 1 4).1
def Kp10:Lo:=(wantP Kp9 [] 1 2).1
def Kp11:Lo:=(gotP Kp10 [] 1 5).1
def Kp12:Lo:=(askI Kp11 [] 3 3).1
def Kp13:Lo:=(wroteP Kp12 [] 1 5 9).1
def Kq1:Lo:=(wantP Kq0 [] 6 2).1
def Kq2:Lo:=(gotP Kq1 [] 6 1).1
def Kq3:Lo:=(wantP Kq2 [] 3 1).1
def Kq4:Lo:=(gotP Kq3 [] 3 2).1
def Kq5:Lo:=(wantP Kq4 [] 5 1).1
def Kq6:Lo:=(gotP Kq5 [] 5 3).1
def Kq7:Lo:=(wantP Kq6 [] 3 2).1
def Kq8:Lo:=(wroteP Kq7 [] 6 3 1).1
def Kq9:Lo:=(goneP Kq8 [] 5 4).1
def Kq10:Lo:=(goneP Kq9 [] 6 4).1
def Kp14:Lo:=(wantP Kp13 [] 2 1).1
def Kp15:Lo:=(relP Kp14 [] 1 5).1
theorem Ep1:wantP Kp0 [] 1 1=(Kp1,[],[⟨1,1,1,1,0,0⟩]):=by kernel_rfl
theorem Ep2:gotP Kp1 [] 1 1=(Kp2,[],[]):=by kernel_rfl
theorem Ep3:wantP Kp2 [] 2 1=(Kp3,[],[⟨2,1,2,0,2,0⟩]):=by kernel_rfl
theorem Ep4:gotP Kp3 [] 2 2=(Kp4,[],[]):=by kernel_rfl
theorem Ep5:wantP Kp4 [] 3 2=(Kp5,[],[⟨4,2,3,0,0,0⟩]):=by kernel_rfl
theorem Ep6:goneP Kp5 [] 2 3=(Kp6,[],[⟨3,1,3,0,3,0⟩]):=by kernel_rfl
theorem Ep7:gotP Kp6 [] 3 3=(Kp7,[],[]):=by kernel_rfl
theorem Ep8:wantP Kp7 [] 1 1=(Kp8,[],[⟨2,3,4,0,1,0⟩]):=by kernel_rfl
theorem Ep9:gotP Kp8 [] 1 4=(Kp9,[],[]):=by kernel_rfl
theorem Ep10:wantP Kp9 [] 1 2=(Kp10,[],[⟨3,3,5,0,1,0⟩]):=by kernel_rfl
theorem Ep11:gotP Kp10 [] 1 5=(Kp11,[],[]):=by kernel_rfl
theorem Ep12:askI Kp11 [] 3 3=(Kp12,[],[⟨5,1,6,0,0,0⟩]):=by kernel_rfl
theorem Ep13:wroteP Kp12 [] 1 5 9=(Kp13,[],[⟨6,3,0,0,0,9⟩]):=by kernel_rfl
theorem Eq1:wantP Kq0 [] 6 2=(Kq1,[],(wantP Kq0 [] 6 2).2.2):=by kernel_rfl
theorem Eq2:gotP Kq1 [] 6 1=(Kq2,[],(gotP Kq1 [] 6 1).2.2):=by kernel_rfl
theorem Eq3:wantP Kq2 [] 3 1=(Kq3,[],(wantP Kq2 [] 3 1).2.2):=by kernel_rfl
theorem Eq4:gotP Kq3 [] 3 2=(Kq4,[],(gotP Kq3 [] 3 2).2.2):=by kernel_rfl
theorem Eq5:wantP Kq4 [] 5 1=(Kq5,[],(wantP Kq4 [] 5 1).2.2):=by kernel_rfl
theorem Eq6:gotP Kq5 [] 5 3=(Kq6,[],(gotP Kq5 [] 5 3).2.2):=by kernel_rfl
theorem Eq7:wantP Kq6 [] 3 2=(Kq7,[],[⟨4,5,4,0,0,0⟩]):=by kernel_rfl
theorem Eq8:wroteP Kq7 [] 6 3 1=(Kq8,[],[]):=by kernel_rfl
theorem Eq9:goneP Kq8 [] 5 4=(Kq9,[],[⟨4,6,4,0,0,0⟩]):=by kernel_rfl
theorem Eq10:goneP Kq9 [] 6 4=(Kq10,[],[⟨1,3,4,2,0,0⟩]):=by kernel_rfl
theorem Ep14:wantP Kp13 [] 2 1=(Kp14,[],[⟨2,1,7,0,2,0⟩]):=by kernel_rfl
theorem Ep15:relP Kp14 [] 1 5=(Kp15,[],[⟨1,2,8,1,0,0⟩]):=by kernel_rfl
theorem known9 (w:World):Calls Try.prog 9 #[] w fun e w'=>e= .returned (.bool true)∧Kept [] w w':=
 known_gen Kp0 Kp1 Kp2 Kp3 Kp4 Kp5 Kp6 Kp7 Kp8 Kp9 Kp10 Kp11 Kp12 Kp13 Kp14 Kp15 Kq0 Kq1 Kq2 Kq3 Kq4 Kq5 Kq6 Kq7 Kq8 Kq9 Kq10 (wantP Kq0 [] 6 2).2.2 (gotP Kq1 [] 6 1).2.2 (wantP Kq2 [] 3 1).2.2 (gotP Kq3 [] 3 2).2.2 (wantP Kq4 [] 5 1).2.2 (gotP Kq5 [] 5 3).2.2 w rfl rfl Ep1 Ep2 Ep3 Ep4 Ep5 Ep6 Ep7 Ep8 Ep9 Ep10 Ep11 Ep12 Ep13 Eq1 Eq2 Eq3 Eq4 Eq5 Eq6 Eq7 Eq8 Eq9 Eq10 Ep14 Ep15 (by kernel_rfl) (by kernel_rfl) (by kernel_rfl) (by kernel_rfl) (by kernel_rfl)
end Go.Proofs.Ytabicgbnloabnaa
