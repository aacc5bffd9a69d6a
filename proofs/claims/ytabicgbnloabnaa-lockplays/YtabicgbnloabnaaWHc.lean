import Derived.Test.YtabicgbnloabnaaWPf
import Derived.Test.YtabicgbnloabnaaWRg
import Derived.Test.YtabicgbnloabnaaWFq
namespace Go.Proofs.Ytabicgbnloabnaa
set_option maxRecDepth 100000
set_option linter.unusedSimpArgs false
open Go.RowKit
theorem b8_get (f:Nat→Bool) (j:Nat) (h:j<8):(b8 f)[j]?=some (.bool (f j)):=by
 match j,h with
 | 0,_ | 1,_ | 2,_ | 3,_ | 4,_ | 5,_ | 6,_ | 7,_=>rfl
set_option maxHeartbeats 1000000 in
theorem list45 (f:Nat→Bool) (w:World):Calls Try.prog 45 #[aggV (b8 f)] w fun e w'=>∃v,e= .returned v∧New w w' 3 1 v (lst f).length (inC (lst f))∧Kept [] w w':=by
 go_enter Try.func45,Try.ntmps45
 go_wp2_with (first |(refine wpBoxV rfl (.tmp 0) rfl (b8 f) rfl ?_;intro W1 b1 e1 B1 K1;have HB:=hide B1;have HK:=hide K1;clear e1 B1 K1;refine Stp.go ?_))
 constructor
 go_wp2_with fail
 go_loopw [3,4] (fun u i wr=>∃(j:Nat) (xu:Value),j≤8∧i= .int .i64 j∧xu=u∧Hid (New w wr 3 1 xu (lstTo f j).length (inC (lstTo f j)))∧Hid (Kept [] w wr)∧Hid (Blk wr b1 45 (b8 f))) (fun _ i _=>8-(intOf i).toNat)
 case atStart=>exact ⟨0,_,by omega,rfl,rfl,New.nil _ _ _ _,HK,HB⟩
 case round=>
   clear HK HB
   obtain⟨j,xu,hj,rfl,rfl,HI,HK,HB⟩:=hrel
   by_cases hlt:j<8
   · have hjI:(j:Int)<8:=by omega
     have hd:decide ((j:Int)<8)=true:=by simpa using hjI
     have HLN:Hid ((lstTo f j).length≤8):=by have:=lstTo_len f j;show _≤_;omega
     have cj:wr.cell? ⟨b1,j,none⟩=some (.bool (f j)):=fits_cell (unhide HB) j _ (b8_get f j hlt)
     cases hf:f j with
     | true=>
       have HS2:Hid (lstTo f (j+1)=lstTo f j++ [(j:Int)]):=by show _=_;rw [lstTo,hf];rfl
       rw [hf] at cj
       clear hf
       go_wp2_with (first |(refine wpBs36 rfl (.tmp 13) rfl (j:Int) rfl ?_;intro W2 g2 e2 B2 K2;have HB2:=hide B2;have HI2:Hid (New w W2 3 1 xu (lstTo f j).length (inC (lstTo f j))):=(unhide HI).kept K2 (by simp);have HK2:Hid (Kept [] w W2):=(unhide HK).trans K2;replace HB:=hide ((unhide HB).kept K2 (by simp));clear e2 B2 K2 cj;refine Stp.go ?_))
       constructor
       go_wp2_with (
         first
         | (refine wpAppN el36 rfl (.tmp 12) (.tmp 14) rfl xu _ _ rfl (unhide HI2) _ 1 [.int .i64 (j:Int)] rfl (Rw.made (unhide HB2) rfl (max1000 (by omega))) (by simp;rfl) (by have:=unhide HLN;omega) (max1000 (by have:=unhide HLN;omega)) (unhide HK2).size ?_
            intro v3 W3 N3 K3
            have HI3:Hid (New w W3 3 1 v3 (lstTo f (j+1)).length (inC (lstTo f (j+1)))):=by
              have h9:=N3
              rw [unhide HS2,inC_app,List.length_append]
              exact h9
            have HK3:Hid (Kept [] w W3):=(unhide HK2).own K3 (unhide HI2).spare
            have HB3:Hid (Blk W3 b1 45 (b8 f)):=(unhide HB).kept K3 (fun hx=>Rw.ne (unhide HI2).row (unhide HB) (by decide) b1 (spare_own hx) (by simp))
            clear N3 K3
            refine Stp.go ?_))
       constructor
       go_wp2_with fail
       go_roundw
       case rel=>exact ⟨j+1,_,by omega,by go_num,rfl,HI3,HK3,HB3⟩
       case measure=>simp [intOf];omega
     | false=>
       have HS2:Hid (lstTo f (j+1)=lstTo f j):=by show _=_;rw [lstTo,hf];simp
       rw [hf] at cj
       clear hf
       go_wp2_with fail
       go_roundw
       case rel=>exact ⟨j+1,_,by omega,by go_num,rfl,by rw [unhide HS2];exact HI,HK,HB⟩
       case measure=>simp [intOf];omega
   · have hd:decide ((j:Int)<8)=false:=by simp;omega
     have HJ:Hid (8=j):=by show _=_;omega
     go_wp2_with fail
     go_ret
     exact⟨_,rfl,by unfold lst;rw [unhide HJ];exact unhide HI,unhide HK⟩
def rholdsP (r:Rk) (m:Int):Int×Bool:=if isN m=true then (if r.x=m then (2,true) else if r.sh m.toNat=true then (1,true) else (0,false)) else (0,false)
theorem rholds19 (r:Rk) (ln:Value) (b:Nat) (m:Int) (w:World) (h:Blk w b 47 (r.C ln)):Calls Try.prog 19 #[P0 b,.int .i64 m] w fun e w'=>e= .returned (.tuple #[.int .i64 (rholdsP r m).1,.bool (rholdsP r m).2])∧w'=w:=by
 unfold rholdsP
 have P47:=hide (in47 m w)
 have c0:w.cell? ⟨b,0,none⟩=some (.int .i64 r.x):=fits_cell h 0 _ rfl
 cases hm:isN m with
 | false=>
   rw [hm] at P47
   rw [if_neg (by simp)]
   clear hm h
   go_enter Try.func19,Try.ntmps19
   go_wp2_with (first |(go_at_call 47;refine(unhide P47).mono ?_;rintro e W8 ⟨rfl,q8⟩;replace q8:=q8.symm;subst q8;refine Stp.go ?_))
   constructor
   go_wp2_with fail
   go_ret2
   exact⟨rfl,rfl⟩
 | true=>
   rw [hm] at P47
   rw [if_pos rfl]
   have h1:0≤m∧m<8:=by simpa [isN] using hm
   obtain⟨n,rfl⟩:∃n:Nat,m=(n:Int):=⟨m.toNat,by omega⟩
   have hn8:n<8:=by omega
   rw [Int.toNat_natCast]
   have cn:w.cell? ⟨b,2+n,none⟩=some (.bool (r.sh n)):=Blk.rsh h hn8
   clear hm h
   by_cases hx:r.x=(n:Int)
   · rw [if_pos hx]
     have hxa:=eqt_a hx
     have hxb:=eqt_b hx
     have hxc:=eqt_c hx
     clear hx
     go_enter Try.func19,Try.ntmps19
     go_wp2_with (first |(go_at_call 47;refine(unhide P47).mono ?_;rintro e W8 ⟨rfl,q8⟩;replace q8:=q8.symm;subst q8;refine Stp.go ?_))
     constructor
     go_wp2_with fail
     go_ret2
     exact⟨rfl,rfl⟩
   · rw [if_neg hx]
     have hxa:=nef_a hx
     have hxb:=nef_b hx
     have hxc:=nef_c hx
     clear hx
     have hnI:(n:Int)<8:=by omega
     cases hs:r.sh n with
     | true=>
       rw [hs] at cn
       rw [if_pos rfl]
       clear hs
       go_enter Try.func19,Try.ntmps19
       go_wp2_with (first |(go_at_call 47;refine(unhide P47).mono ?_;rintro e W8 ⟨rfl,q8⟩;replace q8:=q8.symm;subst q8;refine Stp.go ?_))
       constructor
       go_wp2_with fail
       go_ret2
       exact⟨rfl,rfl⟩
     | false=>
       rw [hs] at cn
       rw [if_neg (by simp)]
       clear hs
       go_enter Try.func19,Try.ntmps19
       go_wp2_with (first |(go_at_call 47;refine(unhide P47).mono ?_;rintro e W8 ⟨rfl,q8⟩;replace q8:=q8.symm;subst q8;refine Stp.go ?_))
       constructor
       go_wp2_with fail
       go_ret2
       exact⟨rfl,rfl⟩
theorem rholds_abs {s:Lo} (h:Jv s) (m:Int):rholdsP s.abs m=holdsP s m:=by
 unfold rholdsP holdsP
 by_cases hm:isN m=true
 · have h1:0≤m∧m<8:=by simpa [isN] using hm
   rw [if_pos hm]
   by_cases hx:s.ex=m
   · have h2:=h.ow (by have:=(h.ex (by omega)).1;omega)
     rw [(h.ex (by omega)).1,hx] at h2
     rw [if_pos (show s.abs.x=m from hx),if_pos ⟨hm,h2⟩,if_pos hx]
   · rw [if_neg (show ¬s.abs.x=m from hx),if_neg hx]
     have h3:s.abs.sh m.toNat=s.ho m.toNat:=by
       show s.shd m.toNat=_
       by_cases h0:0≤s.ex
       · rw [shd_pos h0,updNo _ _ (by omega)]
       · rw [shd_neg h.ok h0]
     rw [h3]
     by_cases h4:s.ho m.toNat=true
     · rw [if_pos h4,if_pos ⟨hm,h4⟩]
     · rw [if_neg h4,if_neg (fun e=>h4 e.2)]
 · rw [if_neg hm,if_neg (fun e=>hm e.1)]
def Rk.book (r:Rk) (R:List Wi):Bo:=⟨r.x,r.ow,lst r.sh,lst r.pa,r.ops,R,r.hn,r.hk,!decide (r.wt=0),r.op⟩
theorem book_abs {s:Lo} (L:List Wi):s.abs.book L=s.book L:=by
 unfold Rk.book Lo.book
 have:(!decide (s.abs.wt=0))=s.busy:=by
   show(!decide (s.wt=0))=s.busy
   cases hb:s.busy with
   | false=>simp [wt_ne.2 hb]
   | true=>simp;intro e;have:=wt_ne.1 e;rw [hb] at this;cases this
 rw [this]
 rfl
set_option maxHeartbeats 4000000 in
theorem rbook16 (r:Rk) (ln:Value) (b:Nat) (R:List Wi) (w:World) (h:Blk w b 47 (r.C ln)) (hW:Ws w ln R) (hR:R.length≤800):Calls Try.prog 16 #[P0 b] w fun e w'=>∃x y z,e= .returned (aggV ((r.book R).C x y z))∧Bk w w' (r.book R) x y z∧Kept [] w w':=by
 have H:=hide h
 have HW:=hide hW
 clear h hW
 go_enter Try.func16,Try.ntmps16
 go_wp2_with (first |(refine wpAllocW bz43 zero43 2 rfl rfl rfl ?_;intro W1 b2 e1 B1 K1;have HZ:=hide B1;have HK1:=hide K1;have HG:Hid (w.heap.size≤b2):=(by show _≤_;omega);clear e1 B1 K1;refine Stp.go ?_))
 constructor
 go_wp2_with fail
 refine wp_region_any mixed (wpAny_gx 42 rfl (by kernel_rfl) [some (P0 b),some (P0 b),some (P0 b),some (.int .i64 r.x),some (P0 b),some (P0 b),some (.pointer (some ⟨b,1,none⟩)),some (.int .i64 r.ow),some (P0 b),some (P0 b),some (.pointer (some ⟨b,2,none⟩)),some (aggV (b8 r.sh)),none,some (P0 b),some (P0 b),some (.pointer (some ⟨b,10,none⟩)),some (aggV (b8 r.pa)),none,some (P0 b),some (P0 b),some (.pointer (some ⟨b,18,none⟩)),some (aggV (i8 r.ops)),some (P0 b),some (P0 b),some (.pointer (some ⟨b,26,none⟩)),some (ln),none,some (P0 b),some (P0 b),some (.pointer (some ⟨b,27,none⟩)),some (aggV (Wi.C ⟨r.hn,r.hk⟩)),some (P0 b),some (P0 b),some (.pointer (some ⟨b,29,none⟩)),some (.int .i64 r.wt),some (.bool (!(decide (r.wt=0)))),some (P0 b),some (P0 b),some (.pointer (some ⟨b,39,none⟩)),some (.int .i64 r.op),none,none] rfl (by kernel_rfl) (fun l vs W=>(SBk w b2 (r.book R) 12 17 26 40 41) (fun i=>l.getD i false) vs W) (⟨(unhide HK1).drew,(fun h=>by cases h),(fun h=>by cases h),(fun h=>by cases h),(fun h=>by cases h),(fun h=>by cases h),(fun _=>(unhide HZ).drew),fun h=>by cases h⟩) ?_ ?_)
 · intro ix o' hi ho a' w2 l vs hls hlf hJ hout hin hdep hnot
   match ix,ho with
   | 0,ho=>
     obtain rfl:=Oj9 ho
     have e0:=hout 0 (by kernel_rfl)
     replace e0:a'.eval (.tmp 0)=_:=e0.trans rfl
     exact wp_move (.tmp 0) rfl _ e0 ⟨_,rfl,told_of rfl,keepG [12,17,26,40,41] SBk.loc (by omega) (by decide) hJ⟩
   | 1,ho=>
     obtain rfl:=Oj9 ho
     have e0:a'.eval (.tmp 3)=P0 b:=by have h9:=hin 0 3 (by kernel_rfl) (by kernel_rfl);exact h9.1.trans (told_is _ h9.2 rfl)
     exact o_nil (.tmp 3) rfl _ e0 ⟨_,rfl,told_of rfl,keepG [12,17,26,40,41] SBk.loc (by omega) (by decide) hJ⟩
   | 2,ho=>
     obtain rfl:=Oj9 ho
     have e0:a'.eval (.tmp 4)=P0 b:=by have h9:=hin 1 4 (by kernel_rfl) (by kernel_rfl);exact h9.1.trans (told_is _ h9.2 rfl)
     exact o_fld47_0 (.tmp 4) rfl b (0) (0) rfl e0 ⟨_,rfl,told_of rfl,keepG [12,17,26,40,41] SBk.loc (by omega) (by decide) hJ⟩
   | 3,ho=>
     obtain rfl:=Oj9 ho
     have e0:a'.eval (.tmp 5)=P0 b:=by have h9:=hin 2 5 (by kernel_rfl) (by kernel_rfl);exact h9.1.trans (told_is _ h9.2 rfl)
     exact o_load3 (.tmp 5) rfl _ _ e0 (fits_cell ((unhide H).kept hJ.kept (by simp)) 0 _ rfl) ⟨_,rfl,told_of rfl,keepG [12,17,26,40,41] SBk.loc (by omega) (by decide) hJ⟩
   | 4,ho=>
     obtain rfl:=Oj9 ho
     have e0:=hout 0 (by kernel_rfl)
     replace e0:a'.eval (.tmp 0)=_:=e0.trans rfl
     exact wp_move (.tmp 0) rfl _ e0 ⟨_,rfl,told_of rfl,keepG [12,17,26,40,41] SBk.loc (by omega) (by decide) hJ⟩
   | 5,ho=>
     obtain rfl:=Oj9 ho
     have e0:a'.eval (.tmp 7)=P0 b:=by have h9:=hin 4 7 (by kernel_rfl) (by kernel_rfl);exact h9.1.trans (told_is _ h9.2 rfl)
     exact o_nil (.tmp 7) rfl _ e0 ⟨_,rfl,told_of rfl,keepG [12,17,26,40,41] SBk.loc (by omega) (by decide) hJ⟩
   | 6,ho=>
     obtain rfl:=Oj9 ho
     have e0:a'.eval (.tmp 8)=P0 b:=by have h9:=hin 5 8 (by kernel_rfl) (by kernel_rfl);exact h9.1.trans (told_is _ h9.2 rfl)
     exact o_fld47_1 (.tmp 8) rfl b (0) (1) rfl e0 ⟨_,rfl,told_of rfl,keepG [12,17,26,40,41] SBk.loc (by omega) (by decide) hJ⟩
   | 7,ho=>
     obtain rfl:=Oj9 ho
     have e0:a'.eval (.tmp 9)= .pointer (some ⟨b,1,none⟩):=by have h9:=hin 6 9 (by kernel_rfl) (by kernel_rfl);exact h9.1.trans (told_is _ h9.2 rfl)
     exact o_load3 (.tmp 9) rfl _ _ e0 (fits_cell ((unhide H).kept hJ.kept (by simp)) 1 _ rfl) ⟨_,rfl,told_of rfl,keepG [12,17,26,40,41] SBk.loc (by omega) (by decide) hJ⟩
   | 8,ho=>
     obtain rfl:=Oj9 ho
     have e0:=hout 0 (by kernel_rfl)
     replace e0:a'.eval (.tmp 0)=_:=e0.trans rfl
     exact wp_move (.tmp 0) rfl _ e0 ⟨_,rfl,told_of rfl,keepG [12,17,26,40,41] SBk.loc (by omega) (by decide) hJ⟩
   | 9,ho=>
     obtain rfl:=Oj9 ho
     have e0:a'.eval (.tmp 11)=P0 b:=by have h9:=hin 8 11 (by kernel_rfl) (by kernel_rfl);exact h9.1.trans (told_is _ h9.2 rfl)
     exact o_nil (.tmp 11) rfl _ e0 ⟨_,rfl,told_of rfl,keepG [12,17,26,40,41] SBk.loc (by omega) (by decide) hJ⟩
   | 10,ho=>
     obtain rfl:=Oj9 ho
     have e0:a'.eval (.tmp 12)=P0 b:=by have h9:=hin 9 12 (by kernel_rfl) (by kernel_rfl);exact h9.1.trans (told_is _ h9.2 rfl)
     exact o_fld47_2 (.tmp 12) rfl b (0) (2) rfl e0 ⟨_,rfl,told_of rfl,keepG [12,17,26,40,41] SBk.loc (by omega) (by decide) hJ⟩
   | 11,ho=>
     obtain rfl:=Oj9 ho
     have e0:a'.eval (.tmp 13)= .pointer (some ⟨b,2,none⟩):=by have h9:=hin 10 13 (by kernel_rfl) (by kernel_rfl);exact h9.1.trans (told_is _ h9.2 rfl)
     exact wp_loadA row45 (.tmp 13) rfl b (2) e0 (b8 r.sh) rfl (Blk.rshA ((unhide H).kept hJ.kept (by simp))) ⟨_,rfl,told_of rfl,keepG [12,17,26,40,41] SBk.loc (by omega) (by decide) hJ⟩
   | 12,ho=>
     obtain rfl:=Oj9 ho
     have e0:a'.eval (.tmp 14)=aggV (b8 r.sh):=by have h9:=hin 11 14 (by kernel_rfl) (by kernel_rfl);exact h9.1.trans (told_is _ h9.2 rfl)
     refine wp_callF 45 _ _ rfl #[aggV (b8 r.sh)] (by simp [e0]) (cg45 _ _) ((list45 r.sh _).mono ?_)
     rintro e w3 ⟨u3,rfl,N3,hk3⟩
     exact⟨_,rfl,_,rfl,told_no rfl,nextG (by omega) (SBk.next hJ hk3 12 _ (by decide) (fun _=>N3.elder (w:=w) hJ.kept.size) (fun h=>absurd h (by decide)) (fun h=>absurd h (by decide)) (fun h=>absurd h (by decide)) (by decide) (fun _=>⟨hnot 40 (by kernel_rfl),hnot 41 (by kernel_rfl)⟩))⟩
   | 13,ho=>
     obtain rfl:=Oj9 ho
     have e0:=hout 0 (by kernel_rfl)
     replace e0:a'.eval (.tmp 0)=_:=e0.trans rfl
     exact wp_move (.tmp 0) rfl _ e0 ⟨_,rfl,told_of rfl,keepG [12,17,26,40,41] SBk.loc (by omega) (by decide) hJ⟩
   | 14,ho=>
     obtain rfl:=Oj9 ho
     have e0:a'.eval (.tmp 16)=P0 b:=by have h9:=hin 13 16 (by kernel_rfl) (by kernel_rfl);exact h9.1.trans (told_is _ h9.2 rfl)
     exact o_nil (.tmp 16) rfl _ e0 ⟨_,rfl,told_of rfl,keepG [12,17,26,40,41] SBk.loc (by omega) (by decide) hJ⟩
   | 15,ho=>
     obtain rfl:=Oj9 ho
     have e0:a'.eval (.tmp 17)=P0 b:=by have h9:=hin 14 17 (by kernel_rfl) (by kernel_rfl);exact h9.1.trans (told_is _ h9.2 rfl)
     exact o_fld47_3 (.tmp 17) rfl b (0) (10) rfl e0 ⟨_,rfl,told_of rfl,keepG [12,17,26,40,41] SBk.loc (by omega) (by decide) hJ⟩
   | 16,ho=>
     obtain rfl:=Oj9 ho
     have e0:a'.eval (.tmp 18)= .pointer (some ⟨b,10,none⟩):=by have h9:=hin 15 18 (by kernel_rfl) (by kernel_rfl);exact h9.1.trans (told_is _ h9.2 rfl)
     exact wp_loadA row45 (.tmp 18) rfl b (10) e0 (b8 r.pa) rfl (Blk.rpaA ((unhide H).kept hJ.kept (by simp))) ⟨_,rfl,told_of rfl,keepG [12,17,26,40,41] SBk.loc (by omega) (by decide) hJ⟩
   | 17,ho=>
     obtain rfl:=Oj9 ho
     have e0:a'.eval (.tmp 19)=aggV (b8 r.pa):=by have h9:=hin 16 19 (by kernel_rfl) (by kernel_rfl);exact h9.1.trans (told_is _ h9.2 rfl)
     refine wp_callF 45 _ _ rfl #[aggV (b8 r.pa)] (by simp [e0]) (cg45 _ _) ((list45 r.pa _).mono ?_)
     rintro e w3 ⟨u3,rfl,N3,hk3⟩
     exact⟨_,rfl,_,rfl,told_no rfl,nextG (by omega) (SBk.next hJ hk3 17 _ (by decide) (fun h=>absurd h (by decide)) (fun _=>N3.elder (w:=w) hJ.kept.size) (fun h=>absurd h (by decide)) (fun h=>absurd h (by decide)) (by decide) (fun _=>⟨hnot 40 (by kernel_rfl),hnot 41 (by kernel_rfl)⟩))⟩
   | 18,ho=>
     obtain rfl:=Oj9 ho
     have e0:=hout 0 (by kernel_rfl)
     replace e0:a'.eval (.tmp 0)=_:=e0.trans rfl
     exact wp_move (.tmp 0) rfl _ e0 ⟨_,rfl,told_of rfl,keepG [12,17,26,40,41] SBk.loc (by omega) (by decide) hJ⟩
   | 19,ho=>
     obtain rfl:=Oj9 ho
     have e0:a'.eval (.tmp 21)=P0 b:=by have h9:=hin 18 21 (by kernel_rfl) (by kernel_rfl);exact h9.1.trans (told_is _ h9.2 rfl)
     exact o_nil (.tmp 21) rfl _ e0 ⟨_,rfl,told_of rfl,keepG [12,17,26,40,41] SBk.loc (by omega) (by decide) hJ⟩
   | 20,ho=>
     obtain rfl:=Oj9 ho
     have e0:a'.eval (.tmp 22)=P0 b:=by have h9:=hin 19 22 (by kernel_rfl) (by kernel_rfl);exact h9.1.trans (told_is _ h9.2 rfl)
     exact o_fld47_4 (.tmp 22) rfl b (0) (18) rfl e0 ⟨_,rfl,told_of rfl,keepG [12,17,26,40,41] SBk.loc (by omega) (by decide) hJ⟩
   | 21,ho=>
     obtain rfl:=Oj9 ho
     have e0:a'.eval (.tmp 23)= .pointer (some ⟨b,18,none⟩):=by have h9:=hin 20 23 (by kernel_rfl) (by kernel_rfl);exact h9.1.trans (told_is _ h9.2 rfl)
     exact wp_loadA row37 (.tmp 23) rfl b (18) e0 (i8 r.ops) rfl (Blk.ropsA ((unhide H).kept hJ.kept (by simp))) ⟨_,rfl,told_of rfl,keepG [12,17,26,40,41] SBk.loc (by omega) (by decide) hJ⟩
   | 22,ho=>
     obtain rfl:=Oj9 ho
     have e0:=hout 0 (by kernel_rfl)
     replace e0:a'.eval (.tmp 0)=_:=e0.trans rfl
     exact wp_move (.tmp 0) rfl _ e0 ⟨_,rfl,told_of rfl,keepG [12,17,26,40,41] SBk.loc (by omega) (by decide) hJ⟩
   | 23,ho=>
     obtain rfl:=Oj9 ho
     have e0:a'.eval (.tmp 25)=P0 b:=by have h9:=hin 22 25 (by kernel_rfl) (by kernel_rfl);exact h9.1.trans (told_is _ h9.2 rfl)
     exact o_nil (.tmp 25) rfl _ e0 ⟨_,rfl,told_of rfl,keepG [12,17,26,40,41] SBk.loc (by omega) (by decide) hJ⟩
   | 24,ho=>
     obtain rfl:=Oj9 ho
     have e0:a'.eval (.tmp 26)=P0 b:=by have h9:=hin 23 26 (by kernel_rfl) (by kernel_rfl);exact h9.1.trans (told_is _ h9.2 rfl)
     exact o_fld47_5 (.tmp 26) rfl b (0) (26) rfl e0 ⟨_,rfl,told_of rfl,keepG [12,17,26,40,41] SBk.loc (by omega) (by decide) hJ⟩
   | 25,ho=>
     obtain rfl:=Oj9 ho
     have e0:a'.eval (.tmp 27)= .pointer (some ⟨b,26,none⟩):=by have h9:=hin 24 27 (by kernel_rfl) (by kernel_rfl);exact h9.1.trans (told_is _ h9.2 rfl)
     exact o_load38 (.tmp 27) rfl _ _ e0 (fits_cell ((unhide H).kept hJ.kept (by simp)) 26 _ rfl) ⟨_,rfl,told_of rfl,keepG [12,17,26,40,41] SBk.loc (by omega) (by decide) hJ⟩
   | 26,ho=>
     obtain rfl:=Oj9 ho
     have e0:a'.eval (.tmp 28)=ln:=by have h9:=hin 25 28 (by kernel_rfl) (by kernel_rfl);exact h9.1.trans (told_is _ h9.2 rfl)
     refine o_appR el38 (.const (.slice none 0 0)) (.tmp 28) rfl (.slice none 0 0) 0 [] rfl (Rw.nil _) ln R.length (wsC R) e0 ((unhide HW).kept hJ.kept (by simp)) (wsC_one _) (by omega) (max1000 (by omega)) (fun v9 W9 h1 h2 h3 h4=> ?_)
     have N3:New w W9 41 2 v9 R.length (wsC R):=⟨by rw [Nat.zero_add,List.nil_append] at h1;exact h1,fun k hk=>by rcases h3 k hk with h5 | h5;cases h5;have:=hJ.kept.size;omega⟩
     have hk3:Kept [] w2 W9:=h2
     exact⟨_,rfl,told_no rfl,nextG (by omega) (SBk.next hJ hk3 26 _ (by decide) (fun h=>absurd h (by decide)) (fun h=>absurd h (by decide)) (fun _=>N3) (fun h=>absurd h (by decide)) (by decide) (fun _=>⟨hnot 40 (by kernel_rfl),hnot 41 (by kernel_rfl)⟩))⟩
   | 27,ho=>
     obtain rfl:=Oj9 ho
     have e0:=hout 0 (by kernel_rfl)
     replace e0:a'.eval (.tmp 0)=_:=e0.trans rfl
     exact wp_move (.tmp 0) rfl _ e0 ⟨_,rfl,told_of rfl,keepG [12,17,26,40,41] SBk.loc (by omega) (by decide) hJ⟩
   | 28,ho=>
     obtain rfl:=Oj9 ho
     have e0:a'.eval (.tmp 30)=P0 b:=by have h9:=hin 27 30 (by kernel_rfl) (by kernel_rfl);exact h9.1.trans (told_is _ h9.2 rfl)
     exact o_nil (.tmp 30) rfl _ e0 ⟨_,rfl,told_of rfl,keepG [12,17,26,40,41] SBk.loc (by omega) (by decide) hJ⟩
   | 29,ho=>
     obtain rfl:=Oj9 ho
     have e0:a'.eval (.tmp 31)=P0 b:=by have h9:=hin 28 31 (by kernel_rfl) (by kernel_rfl);exact h9.1.trans (told_is _ h9.2 rfl)
     exact o_fld47_6 (.tmp 31) rfl b (0) (27) rfl e0 ⟨_,rfl,told_of rfl,keepG [12,17,26,40,41] SBk.loc (by omega) (by decide) hJ⟩
   | 30,ho=>
     obtain rfl:=Oj9 ho
     have e0:a'.eval (.tmp 32)= .pointer (some ⟨b,27,none⟩):=by have h9:=hin 29 32 (by kernel_rfl) (by kernel_rfl);exact h9.1.trans (told_is _ h9.2 rfl)
     exact wp_loadA row41 (.tmp 32) rfl b (27) e0 (Wi.C ⟨r.hn,r.hk⟩) rfl (Blk.rhand ((unhide H).kept hJ.kept (by simp))) ⟨_,rfl,told_of rfl,keepG [12,17,26,40,41] SBk.loc (by omega) (by decide) hJ⟩
   | 31,ho=>
     obtain rfl:=Oj9 ho
     have e0:=hout 0 (by kernel_rfl)
     replace e0:a'.eval (.tmp 0)=_:=e0.trans rfl
     exact wp_move (.tmp 0) rfl _ e0 ⟨_,rfl,told_of rfl,keepG [12,17,26,40,41] SBk.loc (by omega) (by decide) hJ⟩
   | 32,ho=>
     obtain rfl:=Oj9 ho
     have e0:a'.eval (.tmp 34)=P0 b:=by have h9:=hin 31 34 (by kernel_rfl) (by kernel_rfl);exact h9.1.trans (told_is _ h9.2 rfl)
     exact o_nil (.tmp 34) rfl _ e0 ⟨_,rfl,told_of rfl,keepG [12,17,26,40,41] SBk.loc (by omega) (by decide) hJ⟩
   | 33,ho=>
     obtain rfl:=Oj9 ho
     have e0:a'.eval (.tmp 35)=P0 b:=by have h9:=hin 32 35 (by kernel_rfl) (by kernel_rfl);exact h9.1.trans (told_is _ h9.2 rfl)
     exact o_fld47_7 (.tmp 35) rfl b (0) (29) rfl e0 ⟨_,rfl,told_of rfl,keepG [12,17,26,40,41] SBk.loc (by omega) (by decide) hJ⟩
   | 34,ho=>
     obtain rfl:=Oj9 ho
     have e0:a'.eval (.tmp 36)= .pointer (some ⟨b,29,none⟩):=by have h9:=hin 33 36 (by kernel_rfl) (by kernel_rfl);exact h9.1.trans (told_is _ h9.2 rfl)
     exact o_load3 (.tmp 36) rfl _ _ e0 (fits_cell ((unhide H).kept hJ.kept (by simp)) 29 _ rfl) ⟨_,rfl,told_of rfl,keepG [12,17,26,40,41] SBk.loc (by omega) (by decide) hJ⟩
   | 35,ho=>
     obtain rfl:=Oj9 ho
     have e0:a'.eval (.tmp 37)= .int .i64 r.wt:=by have h9:=hin 34 37 (by kernel_rfl) (by kernel_rfl);exact h9.1.trans (told_is _ h9.2 rfl)
     exact c_neq3 (.tmp 37) (.const (.int .i64 (0))) rfl _ _ (decide (r.wt=0)) (rfl) e0 rfl ⟨_,rfl,told_of rfl,keepG [12,17,26,40,41] SBk.loc (by omega) (by decide) hJ⟩
   | 36,ho=>
     obtain rfl:=Oj9 ho
     have e0:=hout 0 (by kernel_rfl)
     replace e0:a'.eval (.tmp 0)=_:=e0.trans rfl
     exact wp_move (.tmp 0) rfl _ e0 ⟨_,rfl,told_of rfl,keepG [12,17,26,40,41] SBk.loc (by omega) (by decide) hJ⟩
   | 37,ho=>
     obtain rfl:=Oj9 ho
     have e0:a'.eval (.tmp 39)=P0 b:=by have h9:=hin 36 39 (by kernel_rfl) (by kernel_rfl);exact h9.1.trans (told_is _ h9.2 rfl)
     exact o_nil (.tmp 39) rfl _ e0 ⟨_,rfl,told_of rfl,keepG [12,17,26,40,41] SBk.loc (by omega) (by decide) hJ⟩
   | 38,ho=>
     obtain rfl:=Oj9 ho
     have e0:a'.eval (.tmp 40)=P0 b:=by have h9:=hin 37 40 (by kernel_rfl) (by kernel_rfl);exact h9.1.trans (told_is _ h9.2 rfl)
     exact o_fld47_10 (.tmp 40) rfl b (0) (39) rfl e0 ⟨_,rfl,told_of rfl,keepG [12,17,26,40,41] SBk.loc (by omega) (by decide) hJ⟩
   | 39,ho=>
     obtain rfl:=Oj9 ho
     have e0:a'.eval (.tmp 41)= .pointer (some ⟨b,39,none⟩):=by have h9:=hin 38 41 (by kernel_rfl) (by kernel_rfl);exact h9.1.trans (told_is _ h9.2 rfl)
     exact o_load2 (.tmp 41) rfl _ _ e0 (fits_cell ((unhide H).kept hJ.kept (by simp)) 39 _ rfl) ⟨_,rfl,told_of rfl,keepG [12,17,26,40,41] SBk.loc (by omega) (by decide) hJ⟩
   | 40,ho=>
     obtain rfl:=Oj9 ho
     have e0:a'.eval (.tmp 6)= .int .i64 r.x:=by have h9:=hin 3 6 (by kernel_rfl) (by kernel_rfl);exact h9.1.trans (told_is _ h9.2 rfl)
     have e1:a'.eval (.tmp 10)= .int .i64 r.ow:=by have h9:=hin 7 10 (by kernel_rfl) (by kernel_rfl);exact h9.1.trans (told_is _ h9.2 rfl)
     have e2:a'.eval (.tmp 15)=vs 12:=(hin 12 15 (by kernel_rfl) (by kernel_rfl)).1
     have e3:a'.eval (.tmp 20)=vs 17:=(hin 17 20 (by kernel_rfl) (by kernel_rfl)).1
     have e4:a'.eval (.tmp 24)=aggV (i8 r.ops):=by have h9:=hin 21 24 (by kernel_rfl) (by kernel_rfl);exact h9.1.trans (told_is _ h9.2 rfl)
     have e5:a'.eval (.tmp 29)=vs 26:=(hin 26 29 (by kernel_rfl) (by kernel_rfl)).1
     have e6:a'.eval (.tmp 33)=aggV (Wi.C ⟨r.hn,r.hk⟩):=by have h9:=hin 30 33 (by kernel_rfl) (by kernel_rfl);exact h9.1.trans (told_is _ h9.2 rfl)
     have e7:a'.eval (.tmp 38)= .bool (!(decide (r.wt=0))):=by have h9:=hin 35 38 (by kernel_rfl) (by kernel_rfl);exact h9.1.trans (told_is _ h9.2 rfl)
     have e8:a'.eval (.tmp 42)= .int .i64 r.op:=by have h9:=hin 39 42 (by kernel_rfl) (by kernel_rfl);exact h9.1.trans (told_is _ h9.2 rfl)
     exact o_bld43 (.tmp 6) (.tmp 10) (.tmp 15) (.tmp 20) (.tmp 24) (.tmp 29) (.tmp 33) (.tmp 38) (.tmp 42) rfl (r.book R) _ _ _ ⟨hJ.r1 (hdep 12 (by kernel_rfl)),hJ.r2 (hdep 17 (by kernel_rfl)),hJ.r3 (hdep 26 (by kernel_rfl))⟩ e0 e1 e2 e3 e4 e5 e6 e7 e8 ⟨_,rfl,told_no rfl,nextG (by omega) (SBk.next hJ (Kept.refl _ _) 40 _ (by decide) (fun h=>absurd h (by decide)) (fun h=>absurd h (by decide)) (fun h=>absurd h (by decide)) (fun _=>⟨rfl,hdep 12 (by kernel_rfl),hdep 17 (by kernel_rfl),hdep 26 (by kernel_rfl)⟩) (by decide) (fun h=>absurd h (by decide)))⟩
   | 41,ho=>
     obtain rfl:=Oj9 ho
     have e0:=hout 2 (by kernel_rfl)
     replace e0:a'.eval (.tmp 2)=_:=e0.trans rfl
     have e1:a'.eval (.tmp 43)=vs 40:=(hin 40 43 (by kernel_rfl) (by kernel_rfl)).1
     have hb:=hdep 40 (by kernel_rfl)
     obtain⟨i1,i2,i3⟩:=hJ.cl hb
     exact o_stC row43 (.tmp 2) (.tmp 43) rfl rfl b2 _ e0 (e1.trans (hJ.bd hb)) rfl (BoC_one ⟨hJ.r1 i1,hJ.r2 i2,hJ.r3 i3⟩) (hJ.z hlf) rfl (fun W h1 h2=>⟨undef,rfl,told_no rfl,nextG (by omega) (SBk.store hJ h2 _ (by decide) h1 (unhide HG) ⟨43,_,hJ.z hlf,by decide,by decide⟩)⟩)
 intro l_ vs4 V4 hl hJ htold
 have t0:vs4 0=P0 b:=told_is _ (htold 0 (by decide)) rfl
 have t1:vs4 1=P0 b:=told_is _ (htold 1 (by decide)) rfl
 have t2:vs4 2=P0 b:=told_is _ (htold 2 (by decide)) rfl
 have t3:vs4 3= .int .i64 r.x:=told_is _ (htold 3 (by decide)) rfl
 have t4:vs4 4=P0 b:=told_is _ (htold 4 (by decide)) rfl
 have t5:vs4 5=P0 b:=told_is _ (htold 5 (by decide)) rfl
 have t6:vs4 6= .pointer (some ⟨b,1,none⟩):=told_is _ (htold 6 (by decide)) rfl
 have t7:vs4 7= .int .i64 r.ow:=told_is _ (htold 7 (by decide)) rfl
 have t8:vs4 8=P0 b:=told_is _ (htold 8 (by decide)) rfl
 have t9:vs4 9=P0 b:=told_is _ (htold 9 (by decide)) rfl
 have t10:vs4 10= .pointer (some ⟨b,2,none⟩):=told_is _ (htold 10 (by decide)) rfl
 have t11:vs4 11=aggV (b8 r.sh):=told_is _ (htold 11 (by decide)) rfl
 have t13:vs4 13=P0 b:=told_is _ (htold 13 (by decide)) rfl
 have t14:vs4 14=P0 b:=told_is _ (htold 14 (by decide)) rfl
 have t15:vs4 15= .pointer (some ⟨b,10,none⟩):=told_is _ (htold 15 (by decide)) rfl
 have t16:vs4 16=aggV (b8 r.pa):=told_is _ (htold 16 (by decide)) rfl
 have t18:vs4 18=P0 b:=told_is _ (htold 18 (by decide)) rfl
 have t19:vs4 19=P0 b:=told_is _ (htold 19 (by decide)) rfl
 have t20:vs4 20= .pointer (some ⟨b,18,none⟩):=told_is _ (htold 20 (by decide)) rfl
 have t21:vs4 21=aggV (i8 r.ops):=told_is _ (htold 21 (by decide)) rfl
 have t22:vs4 22=P0 b:=told_is _ (htold 22 (by decide)) rfl
 have t23:vs4 23=P0 b:=told_is _ (htold 23 (by decide)) rfl
 have t24:vs4 24= .pointer (some ⟨b,26,none⟩):=told_is _ (htold 24 (by decide)) rfl
 have t25:vs4 25=ln:=told_is _ (htold 25 (by decide)) rfl
 have t27:vs4 27=P0 b:=told_is _ (htold 27 (by decide)) rfl
 have t28:vs4 28=P0 b:=told_is _ (htold 28 (by decide)) rfl
 have t29:vs4 29= .pointer (some ⟨b,27,none⟩):=told_is _ (htold 29 (by decide)) rfl
 have t30:vs4 30=aggV (Wi.C ⟨r.hn,r.hk⟩):=told_is _ (htold 30 (by decide)) rfl
 have t31:vs4 31=P0 b:=told_is _ (htold 31 (by decide)) rfl
 have t32:vs4 32=P0 b:=told_is _ (htold 32 (by decide)) rfl
 have t33:vs4 33= .pointer (some ⟨b,29,none⟩):=told_is _ (htold 33 (by decide)) rfl
 have t34:vs4 34= .int .i64 r.wt:=told_is _ (htold 34 (by decide)) rfl
 have t35:vs4 35= .bool (!(decide (r.wt=0))):=told_is _ (htold 35 (by decide)) rfl
 have t36:vs4 36=P0 b:=told_is _ (htold 36 (by decide)) rfl
 have t37:vs4 37=P0 b:=told_is _ (htold 37 (by decide)) rfl
 have t38:vs4 38= .pointer (some ⟨b,39,none⟩):=told_is _ (htold 38 (by decide)) rfl
 have t39:vs4 39= .int .i64 r.op:=told_is _ (htold 39 (by decide)) rfl
 rw [show (List.range 42).map vs4= [vs4 0,vs4 1,vs4 2,vs4 3,vs4 4,vs4 5,vs4 6,vs4 7,vs4 8,vs4 9,vs4 10,vs4 11,vs4 12,vs4 13,vs4 14,vs4 15,vs4 16,vs4 17,vs4 18,vs4 19,vs4 20,vs4 21,vs4 22,vs4 23,vs4 24,vs4 25,vs4 26,vs4 27,vs4 28,vs4 29,vs4 30,vs4 31,vs4 32,vs4 33,vs4 34,vs4 35,vs4 36,vs4 37,vs4 38,vs4 39,vs4 40,vs4 41] from rfl]
 simp only [t0,t1,t2,t3,t4,t5,t6,t7,t8,t9,t10,t11,t13,t14,t15,t16,t18,t19,t20,t21,t22,t23,t24,t25,t27,t28,t29,t30,t31,t32,t33,t34,t35,t36,t37,t38,t39,putAll,Act.put,List.setIfInBounds_toArray,List.set_cons_succ,List.set_cons_zero]
 clear t0 t1 t2 t3 t4 t5 t6 t7 t8 t9 t10 t11 t13 t14 t15 t16 t18 t19 t20 t21 t22 t23 t24 t25 t27 t28 t29 t30 t31 t32 t33 t34 t35 t36 t37 t38 t39 htold
 have h1:=hJ.r1 (hl 12 (by decide))
 have h2:=hJ.r2 (hl 17 (by decide))
 have h3:=hJ.r3 (hl 26 (by decide))
 have h5:=hJ.st (hl 41 (by decide))
 have h6:=hJ.kept
 generalize vs4 12=x at h1 h5⊢
 generalize vs4 17=y at h2 h5⊢
 generalize vs4 26=z at h3 h5⊢
 have HB5:=hide h5
 have HBk:Hid (Bk w V4 (r.book R) x y z):=⟨h1,h2,h3⟩
 have HK6:=hide h6
 clear h1 h2 h3 h5 h6 hJ hl
 go_wp2_with fail
 exact bodyPost_ret (res16 _ b2 _ _ rfl rfl (unhide HB5)) rfl ⟨x,y,z,rfl,unhide HBk,unhide HK6⟩
end Go.Proofs.Ytabicgbnloabnaa
