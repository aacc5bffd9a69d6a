import Derived.Test.YtbigongmlpoahaaVDo
import Derived.Test.YtbigongmlpoahaaVNi
namespace Go.Proofs.Ytbigongmlpoahaa.D
set_option maxHeartbeats 8000000
set_option maxRecDepth 100000
set_option linter.unusedSimpArgs false
open Go.RowKit Go.Shelf
attribute [local go_sem] Oper.semAt_some
section
variable {o:Oper} {a:Act} {w:World} {K:Act→World→Prop} {Q:Exit→Act→World→Prop}
theorem o_load42 (x:Operand) (ho:o.op= .load 42 x) (p:Addr) (v:Value) (hx:a.eval x= .pointer (some p)) (hc:w.cell? p=some v) (h:K (a.put o.dst v) w):o.wp Try.prog a w K Q:=by
 unfold Oper.wp execOp
 simp only [ho,hx]
 simp [go_sem,hc]
 exact h
theorem o_fld55 (x:Operand) (ho:o.op= .fieldAddr 55 x 0) (b:Nat) (hx:a.eval x=P0 b) (h:K (a.put o.dst (P0 b)) w):o.wp Try.prog a w K Q:=by
 unfold Oper.wp execOp
 simp only [ho,hx]
 simp [go_sem]
 exact h
theorem o_len53 (x:Operand) (ht:o.type=3) (ho:o.op= .call { callee:= .builtin .len,args:= #[x],argTypes:= #[53] }) (mb:Nat) (L:List En) (n:Nat) (hn:L.length=n) (hx:a.eval x= .map (some mb)) (hM:MapAt w mb L) (h:K (a.put o.dst (.int .i64 n)) w):o.wp Try.prog a w K Q:=by
 subst hn
 unfold Oper.wp execOp
 simp only [ho,resolve,invoke,builtin,Sem.run_bind,Sem.run_pure,Result.andThen_ok,List.map_toArray,List.map_cons,List.map_nil,hx,ht,run_len w mb L hM]
 exact h
end
section
variable {F:Fence} {n:Nat} {ops:Array Oper} {rest:List Oper} {o:Oper} {a:Act} {w:World} {Q:Exit→Act→World→Prop}
theorem inLook1 (hF:∀f,F.fn f) (hw:Region.wanted o (yielded ops a.tmps)=true) (x y:Operand) (ho:o.op= .lookup 53 x y false) (hsem:o.semAt F.round a.eval=execOp a.eval o) (mb:Nat) (L:List En) (m:Int) (v:Value) (hx:a.eval x= .map (some mb)) (hy:a.eval y= .int .i64 m) (hv:lookV m L=v) (hM:MapAt w mb L)
   (h:wpListIn F n Try.prog ops Q rest (a.put o.dst v) w):wpListIn F n Try.prog ops Q (o::rest) a w:=by
 subst hv
 refine wpListIn_want hw (wpIn_value (v:=lookV m L) (w':=w) hF hsem ?_ h)
 unfold execOp
 simp only [ho,hx,hy,Sem.run_bind,run_look1 w mb L m hM,Result.andThen_ok,Sem.run_pure]
end
variable {A A2:Nat} {w W W':World} {b mb b2 mb2 c z:Nat} {L L2:List Lk} {Z:List Nat}
theorem Dg.nod (h:Dg A W b mb L) (hk:Kept Z W W') (hz:∀i∈Z,NoD W i):Dg A W' b mb L:=
 ⟨h.blk.kept hk (fun e=>(hz _ e).blk h.blk),MapAt.nod h.map hk hz,fun x hx=>(h.lk x hx).nod hk hz,h.may,h.nd,h.ap⟩
structure Sm (w W:World) (A A2 b mb b2 mb2 c z:Nat) (L L2:List Lk):Prop where
 d1:Dg A W b mb L
 d2:Dg A2 W b2 mb2 L2
 c:Blk W c 42 [P0 b2]
 z:Blk W z 4 [.bool false]
 k:Kept [] w W
theorem Sm.nod (h:Sm w W A A2 b mb b2 mb2 c z L L2) (hk:Kept Z W W') (hz:∀i∈Z,w.heap.size≤i∧NoD W i):Sm w W' A A2 b mb b2 mb2 c z L L2:=
 ⟨h.d1.nod hk (fun i hi=>(hz i hi).2),h.d2.nod hk (fun i hi=>(hz i hi).2),h.c.kept hk (fun e=>(hz _ e).2.blk h.c),h.z.kept hk (fun e=>(hz _ e).2.blk h.z),h.k.fresh hk (fun i hi hl=>by have:=(hz i hi).1;omega)⟩
theorem Sm.step0 (h:Sm w W A A2 b mb b2 mb2 c z L L2) (hk:Kept [] W W'):Sm w W' A A2 b mb b2 mb2 c z L L2:=h.nod hk (by simp)
def hasD (L L2:List Lk):Bool:=(rise L).all fun y=>(lkOf y.k L2).isSome
theorem same_leaves {D:Nat} {bv:Bool} {tmps:Array Value} (h2:tmps[4]?.getD undef=P0 z) (hz:Blk W z 4 [.bool bv]) (hk:Kept [] w W) (h1:W.heap[D]?=some (.deferred (some []))) (g1:w.heap.size≤D):
   LeavesInM Fence.wide 3 Try.prog Try.f14 tmps (fun e w'=>e= .returned (.bool bv)∧Kept [] w w') [{ target:= .collected D,args:= #[] }] .returning W:=by
 have n1:z≠D:=by intro e;have:=hz;subst e;unfold Blk at this;rw [this] at h1;cases h1
 have k1:Kept [D] W (W.putObj D (.deferred none)):=Kept.put1
 refine⟨by simp,.inl ⟨_,_,rfl,run_takeDeferred h1,?_⟩⟩
 exact⟨_,res14 _ _ _ _ h2 (hz.kept k1 (by simpa using n1)),rfl,hk.fresh k1 (fun i hi hl=>by simp at hi;omega)⟩
def smFr (t:Array Value) (y:Lk):Act:= { tmps:=(((t.setIfInBounds 32 (.int .i64 y.k)).setIfInBounds 33 (P0 y.p)).setIfInBounds 5 (.int .i64 y.k)).setIfInBounds 6 (P0 y.p),defers:= [] }
theorem same14 (h:Dg A w b mb L) (k:Dg A2 w b2 mb2 L2) (hn:L.length=L2.length) (hA:A≤900) (hs:∀x∈rise L,∀y,lkOf x.k L2=some y→y.s=x.s∧y.q=x.q):Calls Try.prog 14 #[P0 b,P0 b2] w fun e W=>e= .returned (.bool (hasD L L2))∧Kept [] w W:=by
 have H:=hide h
 have HB:=hide k
 obtain⟨N1,hN1⟩:∃n,(L.map Lk.e).length=n:=⟨_,rfl⟩
 obtain⟨N2,hN2⟩:∃n,(L2.map Lk.e).length=n:=⟨_,rfl⟩
 have HN1:=hide hN1
 have HN2:=hide hN2
 have HLN:Hid (decide ((N1:Int)=(N2:Int))=true):=by show _=_;rw [List.length_map] at hN1 hN2;simp;omega
 have HSS:=hide hs
 clear h k hs hN1 hN2 hn
 have hFw:=wideF
 refine(callsIn_wide (n:=3)).1 ?_
 refine callsIn_of_wp_marks Try.func14 rfl trivial ?_ rfl
 refine wpIn_wide.2 ?_
 simp only [Try.ntmps14,List.size_toArray,List.length_cons,List.length_nil,Nat.reduceAdd,Nat.reduceSub,Array.replicate_succ,Array.replicate_zero,List.push_toArray,List.append_toArray,List.nil_append,List.cons_append]
 go_wp2_with (first |(refine wpBoxQ rfl (.tmp 1) rfl (some ⟨b2,0,none⟩) rfl ?_;intro W1 c e1 B1 K1;have HC:=hide B1;have HK:=hide K1;have c3:=fits_cell B1 0 _ rfl;have HCG:w.heap.size≤c:=(by omega);have HCC0:=B1;clear e1 B1 K1;refine Stp.go ?_))
 constructor
 go_wp2_with (first |(refine wpAllocW ([Value.bool false]) zero4d 4 rfl rfl rfl ?_;intro W2 z e1 B1 K1;have HZ:=hide B1;replace c3:=K1.cell c3 (by simp);have HG:Hid (w.heap.size≤z):=(by have h9:=(unhide HK).size;show _≤_;omega);replace HK:=hide ((unhide HK).trans K1);have HCC:=HCC0.kept K1 (by simp);clear e1 B1 K1 HCC0;refine Stp.go ?_))
 constructor
 go_wp2_with (first |(go_at_call 35;refine(none35 ((unhide H).step0 (unhide HK))).mono ?_;rintro e W9 ⟨rfl,q9⟩;replace q9:=q9.symm;subst q9;refine Stp.go ?_))
 constructor
 go_wp2_with (first |(go_at_call 35;refine(none35 ((unhide HB).step0 (unhide HK))).mono ?_;rintro e W9 ⟨rfl,q9⟩;replace q9:=q9.symm;subst q9;refine Stp.go ?_))
 constructor
 go_upto_region 3 with fail
 have HZC:Hid (w.heap.size≤c):=by show _≤_;exact HCG
 have HS:Hid (Sm w W2 A A2 b mb b2 mb2 c z L L2):=⟨(unhide H).step0 (unhide HK),(unhide HB).step0 (unhide HK),HCC,unhide HZ,unhide HK⟩
 clear HCC HCG c3
 refine wp_region_any mixed (wpAny_tq 11 rfl (by kernel_rfl) [some (P0 b),some (P0 b),some (P0 b),some (.map (some mb)),some (.int .i64 N1),some (P0 b2),some (P0 b2),some (P0 b2),some (.map (some mb2)),some (.int .i64 N2),some (.bool false)] rfl (by kernel_rfl) (by kernel_rfl) ?_ ?_)
 · intro i o' hi hsk ho a' w2 hout hin hk2
   replace hk2:Kept [] W2 w2:=ud hk2
   match i,ho,hsk with
   | 0,ho,hsk=>
     cases ho
     exact wp_move (.tmp 0) rfl _ ((hout 0 (by kernel_rfl)).trans rfl) (tE rfl)
   | 1,ho,hsk=>
     cases ho
     exact o_nil (.tmp 19) rfl _ (is_tq (hin 0 19 (by kernel_rfl) (by kernel_rfl)) rfl) (tE rfl)
   | 2,ho,hsk=>
     cases ho
     exact o_fld55 (.tmp 20) rfl b (is_tq (hin 1 20 (by kernel_rfl) (by kernel_rfl)) rfl) (tE rfl)
   | 3,ho,hsk=>
     cases ho
     exact o_load53 (.tmp 21) rfl _ _ (is_tq (hin 2 21 (by kernel_rfl) (by kernel_rfl)) rfl) (hk2.cell (unhide HS).d1.cw (by simp)) (tE rfl)
   | 4,ho,hsk=>
     cases ho
     exact o_len53 (.tmp 22) rfl rfl mb (L.map Lk.e) _ (unhide HN1) (is_tq (hin 3 22 (by kernel_rfl) (by kernel_rfl)) rfl) ((unhide HS).d1.map.kept hk2 (by simp)) (tE rfl)
   | 5,ho,hsk=>
     cases ho
     exact o_load42 (.tmp 3) rfl _ _ ((hout 3 (by kernel_rfl)).trans rfl) (hk2.cell (fits_cell (unhide HS).c 0 _ rfl) (by simp)) (tE rfl)
   | 6,ho,hsk=>
     cases ho
     exact o_nil (.tmp 24) rfl _ (is_tq (hin 5 24 (by kernel_rfl) (by kernel_rfl)) rfl) (tE rfl)
   | 7,ho,hsk=>
     cases ho
     exact o_fld55 (.tmp 25) rfl b2 (is_tq (hin 6 25 (by kernel_rfl) (by kernel_rfl)) rfl) (tE rfl)
   | 8,ho,hsk=>
     cases ho
     exact o_load53 (.tmp 26) rfl _ _ (is_tq (hin 7 26 (by kernel_rfl) (by kernel_rfl)) rfl) (hk2.cell (unhide HS).d2.cw (by simp)) (tE rfl)
   | 9,ho,hsk=>
     cases ho
     exact o_len53 (.tmp 27) rfl rfl mb2 (L2.map Lk.e) _ (unhide HN2) (is_tq (hin 8 27 (by kernel_rfl) (by kernel_rfl)) rfl) ((unhide HS).d2.map.kept hk2 (by simp)) (tE rfl)
   | 10,ho,hsk=>
     cases ho
     exact c_neq3 (.tmp 23) (.tmp 28) rfl _ _ (true) (unhide HLN) (is_tq (hin 4 23 (by kernel_rfl) (by kernel_rfl)) rfl) (is_tq (hin 9 28 (by kernel_rfl) (by kernel_rfl)) rfl) (tE rfl)
 intro w9 hk9
 replace hk9:Kept [] W2 w9:=ud hk9
 simp only [valsQ,List.map_cons,List.map_nil,Option.getD_some,List.take_succ_cons,List.take_zero,putAll,Act.put,List.setIfInBounds_toArray,List.set_cons_succ,List.set_cons_zero]
 refine wpAny_done (by kernel_rfl) ?_ _
 replace HS:=hide ((unhide HS).step0 hk9)
 clear hk9
 go_wp2_with (first |(go_at_call 38;refine(rising38 (some ⟨b,0,none⟩) _).mono ?_;rintro e W6 ⟨c9,rfl,hc,hg,K2⟩;have HC:=hide hc;have HGC:Hid (w.heap.size≤c9):=(by have:=(unhide HS).k.size;show _≤_;omega);have HCZ:Hid (c9≠z):=(by have:=(unhide HS).z.lt;show _≠_;omega);replace HS:=hide ((unhide HS).step0 K2);clear hc hg K2;refine Stp.go ?_))
 constructor
 go_wp2_with fail
 refine(wpIn_wide (n:=3)).1 ?_
 have HZL:Hid (z<W6.heap.size):=(unhide HS).z.lt
 have HBZ:Hid (b≠z∧mb≠z):=by have h1:=(unhide H).blk.lt;have h2:=(unhide H).map.lt;have h3:=unhide HG;exact⟨by omega,by omega⟩
 have HKW:=hide (unhide HS).k
 refine wp_rangeV 2 73 #[P0 c9] (rise L).length 2 (RiE L) (fun k x W h=>h.two) [z] rfl ent73 rfl (by intro k hk;simp at hk;rw [hk];exact unhide HZL) ?it (fun k W=>Sm w W A A2 b mb b2 mb2 c z L L2∧∀j,j<k→∀y,(rise L)[j]?=some y→(lkOf y.k L2).isSome=true)
   (fun cd k W=>cd= .ret∧Blk W z 4 [.bool false]∧Kept [] w W∧∃y∈rise L,(lkOf y.k L2).isSome=false) ?i1 ?i2 ⟨unhide HS,fun j hj=>by omega⟩ (fun k a' W=>∃y,(rise L)[k]?=some y∧a'=smFr #[P0 b,P0 b2,undef,P0 c,P0 z,undef,undef,P0 b,.bool false,.bool false,P0 b2,.bool false,.bool false,undef,undef,undef,undef,undef,undef,P0 b,P0 b,P0 b,.map (some mb),.int .i64 N1,P0 b2,P0 b2,P0 b2,.map (some mb2),.int .i64 N2,.bool false,P0 b,fnV 73 #[P0 c9],undef,undef,undef,undef,undef,undef,undef,undef,undef,undef,undef] y) ?f1 ?ag ?bd ?dn ?st
 case it=>
   intro V hk hs
   have hzl:=unhide HZL
   have hcz:=unhide HCZ
   have hbz:=unhide HBZ
   have hcl:=(unhide HC).lt
   have hb1:=(unhide HS).d1.blk.lt
   have hb2:=(unhide HS).d1.map.lt
   refine rising73_in _ _ ((unhide HC).kept hk (by simp)) ((unhide HS).d1.blk.kept hk (by simp)) ((unhide HS).d1.map.kept hk (by simp)) ⟨A,(unhide HS).d1.step0 hk⟩ ?_ ?_ ?_
   · simp;omega
   · simp;omega
   · simp;omega
 case i1=>
   rintro k A1 B1 Z ⟨h1,h2⟩ hk hz
   exact⟨h1.nod hk (fun i hi=>⟨by have:=(hz i hi).1;have:=(unhide HKW).size;omega,(hz i hi).2⟩),h2⟩
 case i2=>
   rintro cd k A1 B1 Z ⟨h1,h2,h3,h4⟩ hk hz
   exact⟨h1,h2.kept hk (fun e=>(hz _ e).2.blk h2),h3.fresh hk (fun i hi hl=>by have:=(hz i hi).1;have:=(unhide HKW).size;omega),h4⟩
 case f1=>exact fun k a' A1 B1 h _=>h
 case ag=>
   rintro l k x W K hkN ⟨y,hy,rfl⟩ hI hsz hK
   simp only [List.zip_toArray,List.zip_cons_cons,List.zip_nil_right,List.foldl_toArray,List.foldl_cons,List.foldl_nil,List.setIfInBounds_toArray,List.set_cons_succ,List.set_cons_zero]
   have HKK:=hide (hK _ W (Kept.refl _ _) ⟨y,hy,rfl⟩)
   clear hK hI hy
   simp only [smFr,List.setIfInBounds_toArray,List.set_cons_succ,List.set_cons_zero] at HKK
   gi_wp2
   exact unhide HKK
 case bd=>
   rintro l k a' W hkN ⟨hI,hall⟩ ⟨y,hy,rfl⟩ hsz
   simp only [smFr,List.setIfInBounds_toArray,List.set_cons_succ,List.set_cons_zero]
   have hyR:y∈rise L:=List.mem_of_getElem? hy
   have HYR:=hide hyR
   have HLC:=hide (hI.d1.lk y (rise_mem hyR))
   have c3:=fits_cell hI.c 0 _ rfl
   have c0:=hI.d2.cw
   have HII:=hide hI
   have HALL:=hide hall
   have HY:=hide hy
   clear hI hall hy hyR
   cases hb:lkOf y.k L2 with
   | none=>
     have HLV:Hid (lookV y.k (L2.map Lk.e)= .pointer none):=by show _=_;rw [(look_lk y.k L2).1,hb]
     have HBB:=hide hb
     clear hb
     gi_wp2_with (
       first
       |(refine inLook1 wideF (by rfl) (.tmp 38) (.tmp 39) rfl rfl mb2 (L2.map Lk.e) y.k (.pointer none) rfl rfl (unhide HLV) (unhide HII).d2.map ?_)
       |(refine CallsIn.mono (CallsIn.inRound l (callsIn_wide.2 (same40_ln (.pointer none) y.s y.ln y.p _ (.inl rfl) (unhide HLC).blk))) ?_;rintro e W5 ⟨rfl,q9⟩;replace q9:=q9.symm;subst q9)
       |(refine inStore1 (.bool false) (.bool false) (st1d size4d ⟨rfl,rfl⟩) wideF (by rfl) (.tmp 4) (.const (.bool false)) (by rfl) (by rfl) (by rfl) z (by rfl) (by rfl) (unhide HII).z ?_;intro W7 B7 e7;have HB7:=hide B7;have HK7:Hid (Kept [z] W W7):=(by rw [e7];exact(Kept.refl _ _).setCell (p:=⟨z,0,none⟩) (by simp) _);clear B7 e7)
       | fail)
     have hk7:=unhide HK7
     exact⟨hk7,rfl,unhide HB7,(unhide HII).k.fresh hk7 (fun i hi hl=>by simp at hi;have:=unhide HG;omega),y,unhide HYR,by rw [unhide HBB];rfl⟩
   | some u=>
     have hu:=lkOf_some hb
     have HLV:Hid (lookV y.k (L2.map Lk.e)=P0 u.p):=by show _=_;rw [(look_lk y.k L2).1,hb]
     have HLU:Hid (Lc A2 W u):=(unhide HII).d2.lk u hu.1
     obtain⟨e1,e2⟩:=unhide HSS y (unhide HYR) u hb
     have HSA:Hid (Calls Try.prog 40 #[P0 y.p,P0 u.p] W fun e w'=>e= .returned (.bool true)∧Kept [] W w'):=by
       have h1:=(unhide HLC).blk
       have h2:=(unhide HLU).blk
       have h3:=(unhide HLC).row
       have h4:=(unhide HLU).row
       rw [e1] at h2
       rw [e2] at h4
       exact same40 y.s y.q y.ln u.ln y.p u.p W h1 h2 h3 h4 (by have:=(unhide HLC).gd.len;omega)
     have HBB:=hide hb
     clear hb hu e1 e2
     gi_wp2_with (
       first
       |(refine inLook1 wideF (by rfl) (.tmp 38) (.tmp 39) rfl rfl mb2 (L2.map Lk.e) y.k (P0 u.p) rfl rfl (unhide HLV) (unhide HII).d2.map ?_)
       |(refine CallsIn.mono (CallsIn.inRound l (callsIn_wide.2 (unhide HSA))) ?_;rintro e W5 ⟨rfl,q9⟩;have HK9:=hide q9;clear q9)
       | fail)
     refine⟨(unhide HK9).mono (by simp),(unhide HII).step0 (unhide HK9),fun j hj v hv=> ?_⟩
     by_cases e:j=k
     · subst e
       rw [unhide HY] at hv
       cases hv
       rw [unhide HBB];rfl
     · exact unhide HALL j (by omega) v hv
 case dn=>
   intro W hk hsz hI hD
   have HE:Hid (hasD L L2=true):=by
     show _=_
     unfold hasD
     rw [List.all_eq_true]
     intro y hy
     obtain⟨j,hj⟩:=List.getElem?_of_mem hy
     exact hI.2 j (List.getElem?_eq_some_iff.1 hj).1 y hj
   have HZ9:=hide hI.1.z
   have HK9:=hide hI.1.k
   have HD:=hide hD
   clear hI hD hk
   go_upto_region 10 with fail
   refine(wpIn_wide (n:=3)).1 ?_
   gi_wp2_with (
     first
     |(refine inStore1 (.bool false) (.bool true) (st1d size4d ⟨rfl,rfl⟩) wideF (by rfl) (.tmp 4) (.const (.bool true)) (by rfl) (by rfl) (by rfl) z (by rfl) (by rfl) (unhide HZ9) ?_;intro W7 B7 e7;have HB7:=hide B7;have HK7:Hid (Kept [z] W W7):=(by rw [e7];exact(Kept.refl _ _).setCell (p:=⟨z,0,none⟩) (by simp) _);clear B7 e7)
     | fail)
   have hk7:=unhide HK7
   have hne:W6.heap.size≠z:=by have:=unhide HZL;omega
   go_wp2_with fail
   rw [unhide HE]
   exact same_leaves rfl (unhide HB7) ((unhide HK9).fresh hk7 (fun i hi hl=>by simp at hi;have:=unhide HG;omega)) (hk7.heap (unhide HD) (by simpa using hne)) (unhide HKW).size
 case st=>
   rintro cd k W hk hkX hsz ⟨rfl,h2,h3,y,h4,h5⟩ hD
   have HE:Hid (hasD L L2=false):=by
     show _=_
     unfold hasD
     exact List.all_eq_false.2 ⟨y,h4,by rw [h5];decide⟩
   have HZ9:=hide h2
   have HK9:=hide h3
   have HD:=hide hD
   clear h2 h3 hD h4 h5 hkX
   gi_wp2
   rw [unhide HE]
   exact same_leaves rfl (unhide HZ9) (unhide HK9) (unhide HD) (unhide HKW).size
end Go.Proofs.Ytbigongmlpoahaa.D
namespace Go.Proofs.Ytbigongmlpoahaa.D
set_option maxRecDepth 100000
set_option linter.unusedSimpArgs false
open Go.RowKit Go.Shelf
attribute [local go_sem] Oper.semAt_some
variable {w W V:World} {v:Value} {g c1 c2:Nat} {cs:Array Value} {m:Int} {p:Option Addr}
end Go.Proofs.Ytbigongmlpoahaa.D
