import Derived.Test.YtbigongmlpoahaaURe
namespace Go.Proofs.Ytbigongmlpoahaa
set_option maxHeartbeats 2000000
set_option maxRecDepth 100000
set_option linter.unusedSimpArgs false
open Go.RowKit
def Rk.discTo (r:Rk) (p:Int) (j:Nat):List Od:=(lstTo r.pa j).map fun n=>(⟨6,n,0,0,0,p⟩:Od)
def Rk.noPa (r:Rk):Rk:= { r with pa:=no8 }
def Rk.noOw1 (r:Rk):Rk:= { r with ow:= -1 }
def rmore (O:List Od) (r:Rk×List Wi×List Od):Rk×List Wi×List Od:=(r.1,r.2.1,O++r.2.2)
def rwroteN (r:Rk) (L:List Wi) (n:Nat) (c p:Int):Rk×List Wi×List Od:=
 if r.ow=(n:Int)∧r.ops n=c then
   (if r.x=(n:Int) then (if r.wt=3 then rmore (r.discTo p 8) (rdone r.noPa L) else (r.noPa,L,r.discTo p 8))
   else (if r.wt=3 then rmore (r.discTo p 8) (rdone r.noPa.noOw1 L) else (r.noPa.noOw1,L,r.discTo p 8)))
 else (r,L,r.discTo p 8)
def rwroteP (r:Rk) (L:List Wi) (m c p:Int):Rk×List Wi×List Od:=if isN m=true∧0≤p∧p≤2147483647 then rwroteN r L m.toNat c p else (r,L,[])
theorem rnoPa_ok {r:Rk} (h:r.Ok):r.noPa.Ok:=⟨h.x,h.ow,h.su,h.hn⟩
theorem rnoOw_ok {r:Rk} (h:r.Ok):r.noOw1.Ok:=⟨h.x,by simp [Rk.noOw1],h.su,h.hn⟩
theorem discTo_len (r:Rk) (p:Int) (j:Nat):(r.discTo p j).length≤j:=by simp [Rk.discTo];exact lstTo_len _ _
theorem rwrote_a (r:Rk) (ln:Value) (b:Nat) (L:List Wi) (m c p:Int) (w:World) (h:Rs w b ln r L) (hm:isN m=false):Calls Try.prog 32 #[P0 b,.int .i64 m,.int .i64 c,.int .i64 p] w (RC b ln w (r,L,[])):=by
 have H:=hide h
 have M:=hide (Mm.one h.blk)
 have P47:∀W,Hid (Calls Try.prog 26 #[.int .i64 m] W fun e w'=>e= .returned (.bool false)∧w'=W):=fun W=>hide (by have h9:=in47 m W;rw [show isN m=false by exact hm] at h9;exact h9)
 clear h hm
 go_enter Try.func32,Try.ntmps32
 go_wp2_with (first |(go_at_call 26;refine(unhide (P47 _)).mono ?_;rintro e W11 ⟨rfl,q11⟩;replace q11:=q11.symm;subst q11;refine Stp.go ?_))
 constructor
 go_wp2_with fail
 go_ret
 exact RC.none (unhide H).blk (unhide H).row (unhide M).kept ((unhide M).at 0 _ rfl)
theorem rwrote_b (r:Rk) (ln:Value) (b:Nat) (L:List Wi) (n:Nat) (c p:Int) (w:World) (h:Rs w b ln r L) (hn:n<8) (hp:p<0):Calls Try.prog 32 #[P0 b,.int .i64 n,.int .i64 c,.int .i64 p] w (RC b ln w (r,L,[])):=by
 have H:=hide h
 have M:=hide (Mm.one h.blk)
 have P47:=t47 (n:=n) (by omega)
 have hpd:decide (p<0)=true:=by simpa using hp
 clear h
 go_enter Try.func32,Try.ntmps32
 go_wp2_with (first |(go_at_call 26;refine(unhide (P47 _)).mono ?_;rintro e W11 ⟨rfl,q11⟩;replace q11:=q11.symm;subst q11;refine Stp.go ?_))
 constructor
 go_wp2_with fail
 go_ret
 exact RC.none (unhide H).blk (unhide H).row (unhide M).kept ((unhide M).at 0 _ rfl)
theorem rwrote_c (r:Rk) (ln:Value) (b:Nat) (L:List Wi) (n:Nat) (c p:Int) (w:World) (h:Rs w b ln r L) (hn:n<8) (hp:¬p<0) (hq:p>2147483647):Calls Try.prog 32 #[P0 b,.int .i64 n,.int .i64 c,.int .i64 p] w (RC b ln w (r,L,[])):=by
 have H:=hide h
 have M:=hide (Mm.one h.blk)
 have P47:=t47 (n:=n) (by omega)
 have hpd:decide (p<0)=false:=by simpa using hp
 have hqd:decide (p>2147483647)=true:=by simpa using hq
 clear h
 go_enter Try.func32,Try.ntmps32
 go_wp2_with (first |(go_at_call 26;refine(unhide (P47 _)).mono ?_;rintro e W11 ⟨rfl,q11⟩;replace q11:=q11.symm;subst q11;refine Stp.go ?_))
 constructor
 go_wp2_with fail
 go_ret
 exact RC.none (unhide H).blk (unhide H).row (unhide M).kept ((unhide M).at 0 _ rfl)
theorem rwrote_d (r:Rk) (ln:Value) (b:Nat) (L:List Wi) (n:Nat) (c p:Int) (w:World) (h:Rs w b ln r L) (hn:n<8) (hp:¬p<0) (hq:¬p>2147483647) (hO:¬r.ow=(n:Int)):Calls Try.prog 32 #[P0 b,.int .i64 n,.int .i64 c,.int .i64 p] w (RC b ln w (r,L,(r.discTo p 8))):=by
 have H:=hide h
 have M:=hide (Mm.one h.blk)
 have hnI:(n:Int)<8:=by omega
 have P47:=t47 (n:=n) (by omega)
 have hpd:decide (p<0)=false:=by simpa using hp
 have hqd:decide (p>2147483647)=false:=by simpa using hq
 have hOa:decide (r.ow=(n:Int))=false:=nef_a hO
 have hOb:(r.ow == (n:Int))=false:=nef_b hO
 have hOc:(r.ow !=(n:Int))=true:=nef_c hO
 clear h
 go_enter Try.func32,Try.ntmps32
 go_wp2_with (first |(go_at_call 26;refine(unhide (P47 _)).mono ?_;rintro e W11 ⟨rfl,q11⟩;replace q11:=q11.symm;subst q11;refine Stp.go ?_))
 constructor
 go_wp2_with fail
 go_loopw [9,10] (fun u i wr=>∃(j:Nat) (xo:Value),j≤8∧i= .int .i64 j∧xo=u∧Hid (Mm [b] w wr [(b,80,r.C ln)])∧Hid (Ou w wr xo (r.discTo p j))) (fun _ i _=>8-(intOf i).toNat)
 case atStart=>exact ⟨0,_,by omega,rfl,rfl,M,New.nil _ _ _ _⟩
 case round=>
   clear M
   obtain⟨j,xo,hj,rfl,rfl,M,HO⟩:=hrel
   by_cases hlt:j<8
   · have hjI:(j:Int)<8:=by omega
     have hd:decide ((j:Int)<8)=true:=by simpa using hjI
     have cj:=Blk.rpa ((unhide M).at 0 _ rfl) hlt
     cases hf:r.pa j with
     | true=>
       have cj2:wr.cell? ⟨b,10+j,none⟩=some (.bool true):=by rw [← hf];exact cj
       have HD:Hid (r.discTo p (j+1)=r.discTo p j++ [⟨6,j,0,0,0,p⟩]):=by show _=_;simp [Rk.discTo,lstTo,hf]
       clear cj hf
       go_wp2_with (first |(refine wpBuildP (by rfl) #[(0,.const (.int .i64 6)),(1,.tmp 33),(5,.tmp 34)] (by rfl) #[(0,.int .i64 6),(1,.int .i64 j),(5,.int .i64 p)] (by kernel_rfl) (Od.C ⟨6,j,0,0,0,p⟩) (bod _ 6 j p) ?_;refine Stp.go ?_))
       constructor
       go_wp2_with (first |(refine wpBs28 rfl (.tmp 35) rfl ⟨6,j,0,0,0,p⟩ rfl ?_;intro W2 g2 e2 B2 K2;have HB2:=hide B2;replace M:=hide ((unhide M).step K2);replace HO:Hid (Ou w W2 xo (r.discTo p j)):=(unhide HO).kept K2 (by simp);clear e2 B2 K2 cj2;refine Stp.go ?_))
       constructor
       go_wp2_with (first |(refine wpAppN el28 rfl (.tmp 32) (.tmp 36) rfl xo _ _ rfl (unhide HO) _ 1 (Od.C ⟨6,j,0,0,0,p⟩) rfl (Rw.made (unhide HB2) rfl (max1000 (by omega))) (Od.one _) (by have:=discTo_len r p j;omega) (max1000 (by have:=discTo_len r p j;omega)) (unhide M).kept.size ?_;intro v3 W3 N3 K3;have HO3:Hid (Ou w W3 v3 (r.discTo p (j+1))):=(by rw [unhide HD];exact New.app (m:= [⟨6,j,0,0,0,p⟩]) N3);replace M:Hid (Mm [b] w W3 [(b,80,r.C ln)]):=hide ((unhide M).grown K3 (unhide H).blk.lt (unhide HO).spare);clear N3 K3;refine Stp.go ?_))
       constructor
       go_wp2_with fail
       go_roundw
       case rel=>exact ⟨j+1,_,by omega,by go_num,rfl,M,HO3⟩
       case measure=>simp [intOf];omega
     | false=>
       have cj2:wr.cell? ⟨b,10+j,none⟩=some (.bool false):=by rw [← hf];exact cj
       have HD:Hid (r.discTo p (j+1)=r.discTo p j):=by show _=_;simp [Rk.discTo,lstTo,hf]
       clear cj hf
       go_wp2_with fail
       go_roundw
       case rel=>exact ⟨j+1,_,by omega,by go_num,rfl,M,by rw [unhide HD];exact HO⟩
       case measure=>simp [intOf];omega
   · have hd:decide ((j:Int)<8)=false:=by simp;omega
     have HJ:Hid (j=8):=by show _=_;omega
     replace HO:Hid (Ou w wr xo (r.discTo p 8)):=by have h9:=unhide HO;rw [unhide HJ] at h9;exact h9
     have c1:wr.cell? ⟨b,1,none⟩=some (.int .i64 r.ow):=fits_cell ((unhide M).at 0 _ rfl) 1 _ rfl
     go_wp2_with fail
     go_ret
     have hM:=unhide M
     exact⟨_,ln,rfl,unhide HO,hM.at 0 _ rfl,(unhide H).row1 hM.kept,hM.kept.mono (by simp),Grw.refl _ _⟩
theorem rwrote_e (r:Rk) (ln:Value) (b:Nat) (L:List Wi) (n:Nat) (c p:Int) (w:World) (h:Rs w b ln r L) (hn:n<8) (hp:¬p<0) (hq:¬p>2147483647) (hO:r.ow=(n:Int)) (hc:¬r.ops n=c):Calls Try.prog 32 #[P0 b,.int .i64 n,.int .i64 c,.int .i64 p] w (RC b ln w (r,L,(r.discTo p 8))):=by
 have H:=hide h
 have M:=hide (Mm.one h.blk)
 have hnI:(n:Int)<8:=by omega
 have P47:=t47 (n:=n) (by omega)
 have hpd:decide (p<0)=false:=by simpa using hp
 have hqd:decide (p>2147483647)=false:=by simpa using hq
 have HO_:=hide hO
 clear hO
 have hca:decide (r.ops n=c)=false:=nef_a hc
 have hcb:(r.ops n == c)=false:=nef_b hc
 have hcc:(r.ops n !=c)=true:=nef_c hc
 clear h
 go_enter Try.func32,Try.ntmps32
 go_wp2_with (first |(go_at_call 26;refine(unhide (P47 _)).mono ?_;rintro e W11 ⟨rfl,q11⟩;replace q11:=q11.symm;subst q11;refine Stp.go ?_))
 constructor
 go_wp2_with fail
 go_loopw [9,10] (fun u i wr=>∃(j:Nat) (xo:Value),j≤8∧i= .int .i64 j∧xo=u∧Hid (Mm [b] w wr [(b,80,r.C ln)])∧Hid (Ou w wr xo (r.discTo p j))) (fun _ i _=>8-(intOf i).toNat)
 case atStart=>exact ⟨0,_,by omega,rfl,rfl,M,New.nil _ _ _ _⟩
 case round=>
   clear M
   obtain⟨j,xo,hj,rfl,rfl,M,HO⟩:=hrel
   by_cases hlt:j<8
   · have hjI:(j:Int)<8:=by omega
     have hd:decide ((j:Int)<8)=true:=by simpa using hjI
     have cj:=Blk.rpa ((unhide M).at 0 _ rfl) hlt
     cases hf:r.pa j with
     | true=>
       have cj2:wr.cell? ⟨b,10+j,none⟩=some (.bool true):=by rw [← hf];exact cj
       have HD:Hid (r.discTo p (j+1)=r.discTo p j++ [⟨6,j,0,0,0,p⟩]):=by show _=_;simp [Rk.discTo,lstTo,hf]
       clear cj hf
       go_wp2_with (first |(refine wpBuildP (by rfl) #[(0,.const (.int .i64 6)),(1,.tmp 33),(5,.tmp 34)] (by rfl) #[(0,.int .i64 6),(1,.int .i64 j),(5,.int .i64 p)] (by kernel_rfl) (Od.C ⟨6,j,0,0,0,p⟩) (bod _ 6 j p) ?_;refine Stp.go ?_))
       constructor
       go_wp2_with (first |(refine wpBs28 rfl (.tmp 35) rfl ⟨6,j,0,0,0,p⟩ rfl ?_;intro W2 g2 e2 B2 K2;have HB2:=hide B2;replace M:=hide ((unhide M).step K2);replace HO:Hid (Ou w W2 xo (r.discTo p j)):=(unhide HO).kept K2 (by simp);clear e2 B2 K2 cj2;refine Stp.go ?_))
       constructor
       go_wp2_with (first |(refine wpAppN el28 rfl (.tmp 32) (.tmp 36) rfl xo _ _ rfl (unhide HO) _ 1 (Od.C ⟨6,j,0,0,0,p⟩) rfl (Rw.made (unhide HB2) rfl (max1000 (by omega))) (Od.one _) (by have:=discTo_len r p j;omega) (max1000 (by have:=discTo_len r p j;omega)) (unhide M).kept.size ?_;intro v3 W3 N3 K3;have HO3:Hid (Ou w W3 v3 (r.discTo p (j+1))):=(by rw [unhide HD];exact New.app (m:= [⟨6,j,0,0,0,p⟩]) N3);replace M:Hid (Mm [b] w W3 [(b,80,r.C ln)]):=hide ((unhide M).grown K3 (unhide H).blk.lt (unhide HO).spare);clear N3 K3;refine Stp.go ?_))
       constructor
       go_wp2_with fail
       go_roundw
       case rel=>exact ⟨j+1,_,by omega,by go_num,rfl,M,HO3⟩
       case measure=>simp [intOf];omega
     | false=>
       have cj2:wr.cell? ⟨b,10+j,none⟩=some (.bool false):=by rw [← hf];exact cj
       have HD:Hid (r.discTo p (j+1)=r.discTo p j):=by show _=_;simp [Rk.discTo,lstTo,hf]
       clear cj hf
       go_wp2_with fail
       go_roundw
       case rel=>exact ⟨j+1,_,by omega,by go_num,rfl,M,by rw [unhide HD];exact HO⟩
       case measure=>simp [intOf];omega
   · have hd:decide ((j:Int)<8)=false:=by simp;omega
     have HJ:Hid (j=8):=by show _=_;omega
     replace HO:Hid (Ou w wr xo (r.discTo p 8)):=by have h9:=unhide HO;rw [unhide HJ] at h9;exact h9
     have c1:wr.cell? ⟨b,1,none⟩=some (.int .i64 (n:Int)):=by rw [← unhide HO_];exact fits_cell ((unhide M).at 0 _ rfl) 1 _ rfl
     have co:=Blk.rops ((unhide M).at 0 _ rfl) hn
     go_wp2_with fail
     go_ret
     have hM:=unhide M
     exact⟨_,ln,rfl,unhide HO,hM.at 0 _ rfl,(unhide H).row1 hM.kept,hM.kept.mono (by simp),Grw.refl _ _⟩
theorem rwrote_f (r:Rk) (ln:Value) (b:Nat) (L:List Wi) (n:Nat) (p:Int) (w:World) (h:Rs w b ln r L) (hn:n<8) (hp:¬p<0) (hq:¬p>2147483647) (hO:r.ow=(n:Int)) (hx:r.x=(n:Int)) (hF:¬r.wt=3):Calls Try.prog 32 #[P0 b,.int .i64 n,.int .i64 (r.ops n),.int .i64 p] w (RC b ln w (r.noPa,L,(r.discTo p 8))):=by
 have H:=hide h
 have M:=hide (Mm.one h.blk)
 have hnI:(n:Int)<8:=by omega
 have P47:=t47 (n:=n) (by omega)
 have hpd:decide (p<0)=false:=by simpa using hp
 have hqd:decide (p>2147483647)=false:=by simpa using hq
 have HO_:=hide hO
 clear hO
 have HX:=hide hx
 clear hx
 have hFa:decide (r.wt=3)=false:=nef_a hF
 have hFb:(r.wt == 3)=false:=nef_b hF
 have hFc:(r.wt !=3)=true:=nef_c hF
 clear h
 go_enter Try.func32,Try.ntmps32
 go_wp2_with (first |(go_at_call 26;refine(unhide (P47 _)).mono ?_;rintro e W11 ⟨rfl,q11⟩;replace q11:=q11.symm;subst q11;refine Stp.go ?_))
 constructor
 go_wp2_with fail
 go_loopw [9,10] (fun u i wr=>∃(j:Nat) (xo:Value),j≤8∧i= .int .i64 j∧xo=u∧Hid (Mm [b] w wr [(b,80,r.C ln)])∧Hid (Ou w wr xo (r.discTo p j))) (fun _ i _=>8-(intOf i).toNat)
 case atStart=>exact ⟨0,_,by omega,rfl,rfl,M,New.nil _ _ _ _⟩
 case round=>
   clear M
   obtain⟨j,xo,hj,rfl,rfl,M,HO⟩:=hrel
   by_cases hlt:j<8
   · have hjI:(j:Int)<8:=by omega
     have hd:decide ((j:Int)<8)=true:=by simpa using hjI
     have cj:=Blk.rpa ((unhide M).at 0 _ rfl) hlt
     cases hf:r.pa j with
     | true=>
       have cj2:wr.cell? ⟨b,10+j,none⟩=some (.bool true):=by rw [← hf];exact cj
       have HD:Hid (r.discTo p (j+1)=r.discTo p j++ [⟨6,j,0,0,0,p⟩]):=by show _=_;simp [Rk.discTo,lstTo,hf]
       clear cj hf
       go_wp2_with (first |(refine wpBuildP (by rfl) #[(0,.const (.int .i64 6)),(1,.tmp 33),(5,.tmp 34)] (by rfl) #[(0,.int .i64 6),(1,.int .i64 j),(5,.int .i64 p)] (by kernel_rfl) (Od.C ⟨6,j,0,0,0,p⟩) (bod _ 6 j p) ?_;refine Stp.go ?_))
       constructor
       go_wp2_with (first |(refine wpBs28 rfl (.tmp 35) rfl ⟨6,j,0,0,0,p⟩ rfl ?_;intro W2 g2 e2 B2 K2;have HB2:=hide B2;replace M:=hide ((unhide M).step K2);replace HO:Hid (Ou w W2 xo (r.discTo p j)):=(unhide HO).kept K2 (by simp);clear e2 B2 K2 cj2;refine Stp.go ?_))
       constructor
       go_wp2_with (first |(refine wpAppN el28 rfl (.tmp 32) (.tmp 36) rfl xo _ _ rfl (unhide HO) _ 1 (Od.C ⟨6,j,0,0,0,p⟩) rfl (Rw.made (unhide HB2) rfl (max1000 (by omega))) (Od.one _) (by have:=discTo_len r p j;omega) (max1000 (by have:=discTo_len r p j;omega)) (unhide M).kept.size ?_;intro v3 W3 N3 K3;have HO3:Hid (Ou w W3 v3 (r.discTo p (j+1))):=(by rw [unhide HD];exact New.app (m:= [⟨6,j,0,0,0,p⟩]) N3);replace M:Hid (Mm [b] w W3 [(b,80,r.C ln)]):=hide ((unhide M).grown K3 (unhide H).blk.lt (unhide HO).spare);clear N3 K3;refine Stp.go ?_))
       constructor
       go_wp2_with fail
       go_roundw
       case rel=>exact ⟨j+1,_,by omega,by go_num,rfl,M,HO3⟩
       case measure=>simp [intOf];omega
     | false=>
       have cj2:wr.cell? ⟨b,10+j,none⟩=some (.bool false):=by rw [← hf];exact cj
       have HD:Hid (r.discTo p (j+1)=r.discTo p j):=by show _=_;simp [Rk.discTo,lstTo,hf]
       clear cj hf
       go_wp2_with fail
       go_roundw
       case rel=>exact ⟨j+1,_,by omega,by go_num,rfl,M,by rw [unhide HD];exact HO⟩
       case measure=>simp [intOf];omega
   · have hd:decide ((j:Int)<8)=false:=by simp;omega
     have HJ:Hid (j=8):=by show _=_;omega
     replace HO:Hid (Ou w wr xo (r.discTo p 8)):=by have h9:=unhide HO;rw [unhide HJ] at h9;exact h9
     have c1:wr.cell? ⟨b,1,none⟩=some (.int .i64 (n:Int)):=by rw [← unhide HO_];exact fits_cell ((unhide M).at 0 _ rfl) 1 _ rfl
     have co:=Blk.rops ((unhide M).at 0 _ rfl) hn
     go_wp2_with (first |(refine wpBuildZ (T:=78) (b8 no8) build45 rfl rfl ?_;refine Stp.go ?_))
     constructor
     go_wp2_with (first |(refine wpStK row45 rfl (.tmp 58) (.tmp 56) rfl rfl b (10) 0 (b8 no8) rfl rfl rfl (b8_one _) (unhide M) rfl (Nat.le_of_ble_eq_true rfl) (fun W h=>h.rpaP no8) ?_;intro W31 N31 KK;replace M:Hid (Mm [b] w W31 [(b,80,r.noPa.C ln)]):=hide N31;clear N31;replace HO:Hid (Ou w W31 xo (r.discTo p 8)):=⟨(unhide HO).row.kept KK (fun k hk=>by have:=(unhide HO).own k hk;have:=(unhide H).blk.lt;simp;omega),(unhide HO).own⟩;clear KK;clear c1 co;have c0:W31.cell? ⟨b,0,none⟩=some (.int .i64 (n:Int)):=(by rw [← unhide HX];exact fits_cell ((unhide M).at 0 _ rfl) 0 _ rfl);have c29:W31.cell? ⟨b,29,none⟩=some (.int .i64 r.wt):=fits_cell ((unhide M).at 0 _ rfl) 29 _ rfl;refine Stp.go ?_))
     constructor
     go_wp2_with fail
     go_ret
     have hM:=unhide M
     exact⟨_,ln,rfl,unhide HO,hM.at 0 _ rfl,(unhide H).row1 hM.kept,hM.kept.mono (by simp),Grw.refl _ _⟩
theorem rwrote_g (r:Rk) (ln:Value) (b:Nat) (L:List Wi) (n:Nat) (p:Int) (w:World) (h:Rs w b ln r L) (hn:n<8) (hp:¬p<0) (hq:¬p>2147483647) (hO:r.ow=(n:Int)) (hx:r.x=(n:Int)) (hF:r.wt=3):Calls Try.prog 32 #[P0 b,.int .i64 n,.int .i64 (r.ops n),.int .i64 p] w (RC b ln w (rmore (r.discTo p 8) (rdone r.noPa L))):=by
 have H:=hide h
 have M:=hide (Mm.one h.blk)
 have hnI:(n:Int)<8:=by omega
 have P47:=t47 (n:=n) (by omega)
 have hpd:decide (p<0)=false:=by simpa using hp
 have hqd:decide (p>2147483647)=false:=by simpa using hq
 have HO_:=hide hO
 clear hO
 have HX:=hide hx
 clear hx
 have HF:=hide hF
 clear hF
 clear h
 go_enter Try.func32,Try.ntmps32
 go_wp2_with (first |(go_at_call 26;refine(unhide (P47 _)).mono ?_;rintro e W11 ⟨rfl,q11⟩;replace q11:=q11.symm;subst q11;refine Stp.go ?_))
 constructor
 go_wp2_with fail
 go_loopw [9,10] (fun u i wr=>∃(j:Nat) (xo:Value),j≤8∧i= .int .i64 j∧xo=u∧Hid (Mm [b] w wr [(b,80,r.C ln)])∧Hid (Ou w wr xo (r.discTo p j))) (fun _ i _=>8-(intOf i).toNat)
 case atStart=>exact ⟨0,_,by omega,rfl,rfl,M,New.nil _ _ _ _⟩
 case round=>
   clear M
   obtain⟨j,xo,hj,rfl,rfl,M,HO⟩:=hrel
   by_cases hlt:j<8
   · have hjI:(j:Int)<8:=by omega
     have hd:decide ((j:Int)<8)=true:=by simpa using hjI
     have cj:=Blk.rpa ((unhide M).at 0 _ rfl) hlt
     cases hf:r.pa j with
     | true=>
       have cj2:wr.cell? ⟨b,10+j,none⟩=some (.bool true):=by rw [← hf];exact cj
       have HD:Hid (r.discTo p (j+1)=r.discTo p j++ [⟨6,j,0,0,0,p⟩]):=by show _=_;simp [Rk.discTo,lstTo,hf]
       clear cj hf
       go_wp2_with (first |(refine wpBuildP (by rfl) #[(0,.const (.int .i64 6)),(1,.tmp 33),(5,.tmp 34)] (by rfl) #[(0,.int .i64 6),(1,.int .i64 j),(5,.int .i64 p)] (by kernel_rfl) (Od.C ⟨6,j,0,0,0,p⟩) (bod _ 6 j p) ?_;refine Stp.go ?_))
       constructor
       go_wp2_with (first |(refine wpBs28 rfl (.tmp 35) rfl ⟨6,j,0,0,0,p⟩ rfl ?_;intro W2 g2 e2 B2 K2;have HB2:=hide B2;replace M:=hide ((unhide M).step K2);replace HO:Hid (Ou w W2 xo (r.discTo p j)):=(unhide HO).kept K2 (by simp);clear e2 B2 K2 cj2;refine Stp.go ?_))
       constructor
       go_wp2_with (first |(refine wpAppN el28 rfl (.tmp 32) (.tmp 36) rfl xo _ _ rfl (unhide HO) _ 1 (Od.C ⟨6,j,0,0,0,p⟩) rfl (Rw.made (unhide HB2) rfl (max1000 (by omega))) (Od.one _) (by have:=discTo_len r p j;omega) (max1000 (by have:=discTo_len r p j;omega)) (unhide M).kept.size ?_;intro v3 W3 N3 K3;have HO3:Hid (Ou w W3 v3 (r.discTo p (j+1))):=(by rw [unhide HD];exact New.app (m:= [⟨6,j,0,0,0,p⟩]) N3);replace M:Hid (Mm [b] w W3 [(b,80,r.C ln)]):=hide ((unhide M).grown K3 (unhide H).blk.lt (unhide HO).spare);clear N3 K3;refine Stp.go ?_))
       constructor
       go_wp2_with fail
       go_roundw
       case rel=>exact ⟨j+1,_,by omega,by go_num,rfl,M,HO3⟩
       case measure=>simp [intOf];omega
     | false=>
       have cj2:wr.cell? ⟨b,10+j,none⟩=some (.bool false):=by rw [← hf];exact cj
       have HD:Hid (r.discTo p (j+1)=r.discTo p j):=by show _=_;simp [Rk.discTo,lstTo,hf]
       clear cj hf
       go_wp2_with fail
       go_roundw
       case rel=>exact ⟨j+1,_,by omega,by go_num,rfl,M,by rw [unhide HD];exact HO⟩
       case measure=>simp [intOf];omega
   · have hd:decide ((j:Int)<8)=false:=by simp;omega
     have HJ:Hid (j=8):=by show _=_;omega
     replace HO:Hid (Ou w wr xo (r.discTo p 8)):=by have h9:=unhide HO;rw [unhide HJ] at h9;exact h9
     have c1:wr.cell? ⟨b,1,none⟩=some (.int .i64 (n:Int)):=by rw [← unhide HO_];exact fits_cell ((unhide M).at 0 _ rfl) 1 _ rfl
     have co:=Blk.rops ((unhide M).at 0 _ rfl) hn
     go_wp2_with (first |(refine wpBuildZ (T:=78) (b8 no8) build45 rfl rfl ?_;refine Stp.go ?_))
     constructor
     go_wp2_with (first |(refine wpStK row45 rfl (.tmp 58) (.tmp 56) rfl rfl b (10) 0 (b8 no8) rfl rfl rfl (b8_one _) (unhide M) rfl (Nat.le_of_ble_eq_true rfl) (fun W h=>h.rpaP no8) ?_;intro W31 N31 KK;replace M:Hid (Mm [b] w W31 [(b,80,r.noPa.C ln)]):=hide N31;clear N31;replace HO:Hid (Ou w W31 xo (r.discTo p 8)):=⟨(unhide HO).row.kept KK (fun k hk=>by have:=(unhide HO).own k hk;have:=(unhide H).blk.lt;simp;omega),(unhide HO).own⟩;clear KK;clear c1 co;have c0:W31.cell? ⟨b,0,none⟩=some (.int .i64 (n:Int)):=(by rw [← unhide HX];exact fits_cell ((unhide M).at 0 _ rfl) 0 _ rfl);have c29:W31.cell? ⟨b,29,none⟩=some (.int .i64 3):=(by rw [← unhide HF];exact fits_cell ((unhide M).at 0 _ rfl) 29 _ rfl);refine Stp.go ?_))
     constructor
     go_wp2_with (first |(go_at_call 62;refine(rdone62 L r.noPa ln b _ ((unhide M).at 0 _ rfl) ((unhide H).row1 (unhide M).kept) (rnoPa_ok (unhide H).ok) (unhide H).all (by have:=(unhide H).len;omega) (unhide H).op0 (by show r.op+L.length≤1000000;have:=(unhide H).op1;omega)).mono ?_;rintro e W90 ⟨v4,ln2,rfl,N4,B4,R4,K4,S4⟩;have HN4:=hide N4.row;have HO3:Hid (Ou w W90 xo (r.discTo p 8)):=(unhide HO).kept K4 (elder_not (unhide H).blk (unhide H).row);have HB4:=hide B4;have HR4:=hide R4;have HK4:Hid (Kept (b::spare ln) w W90):=((unhide M).kept.mono (by simp)).trans K4;have HS4:Hid (Grw w ln ln2):=S4.elder (unhide M).kept.size;clear N4 B4 R4 K4 S4 HO c29 c0;refine Stp.go ?_))
     constructor
     go_wp2_with (first |(refine wpAppN el28 rfl (.tmp 73) (.tmp 75) rfl xo _ _ rfl (unhide HO3) v4 _ _ rfl (unhide HN4) (odC_one _) (by have:=rdone_len L r.noPa;have:=(unhide H).len;have:=discTo_len r p 8;omega) (max1000 (by have:=rdone_len L r.noPa;have:=(unhide H).len;have:=discTo_len r p 8;omega)) (unhide HK4).size ?_;intro v5 W5 N5 K5;have HO5:Hid (Ou w W5 v5 ((r.discTo p 8)++(rdone r.noPa L).2.2)):=New.app N5;have HB5:Hid (Blk W5 b 80 ((rdone r.noPa L).1.C ln2)):=(unhide HB4).kept K5 (fun hi=>by have:=(unhide HO3).spare b hi;have:=(unhide H).blk.lt;omega);have HR5:Hid (Ws W5 ln2 (rdone r.noPa L).2.1):=(unhide HR4).kept K5 ((unhide HR4).apart (unhide HO3).row (by decide));have HK5:Hid (Kept (b::spare ln) w W5):=(unhide HK4).fresh K5 (fun i hi hl=>by have:=(unhide HO3).spare i hi;omega);clear N5 K5;refine Stp.go ?_))
     constructor
     go_wp2_with fail
     go_ret
     exact⟨v5,ln2,rfl,unhide HO5,unhide HB5,unhide HR5,unhide HK5,unhide HS4⟩
theorem rwrote_h (r:Rk) (ln:Value) (b:Nat) (L:List Wi) (n:Nat) (p:Int) (w:World) (h:Rs w b ln r L) (hn:n<8) (hp:¬p<0) (hq:¬p>2147483647) (hO:r.ow=(n:Int)) (hx:¬r.x=(n:Int)) (hF:¬r.wt=3):Calls Try.prog 32 #[P0 b,.int .i64 n,.int .i64 (r.ops n),.int .i64 p] w (RC b ln w (r.noPa.noOw1,L,(r.discTo p 8))):=by
 have H:=hide h
 have M:=hide (Mm.one h.blk)
 have hnI:(n:Int)<8:=by omega
 have P47:=t47 (n:=n) (by omega)
 have hpd:decide (p<0)=false:=by simpa using hp
 have hqd:decide (p>2147483647)=false:=by simpa using hq
 have HO_:=hide hO
 clear hO
 have hxa:decide (r.x=(n:Int))=false:=nef_a hx
 have hxb:(r.x == (n:Int))=false:=nef_b hx
 have hxc:(r.x !=(n:Int))=true:=nef_c hx
 have hFa:decide (r.wt=3)=false:=nef_a hF
 have hFb:(r.wt == 3)=false:=nef_b hF
 have hFc:(r.wt !=3)=true:=nef_c hF
 clear h
 go_enter Try.func32,Try.ntmps32
 go_wp2_with (first |(go_at_call 26;refine(unhide (P47 _)).mono ?_;rintro e W11 ⟨rfl,q11⟩;replace q11:=q11.symm;subst q11;refine Stp.go ?_))
 constructor
 go_wp2_with fail
 go_loopw [9,10] (fun u i wr=>∃(j:Nat) (xo:Value),j≤8∧i= .int .i64 j∧xo=u∧Hid (Mm [b] w wr [(b,80,r.C ln)])∧Hid (Ou w wr xo (r.discTo p j))) (fun _ i _=>8-(intOf i).toNat)
 case atStart=>exact ⟨0,_,by omega,rfl,rfl,M,New.nil _ _ _ _⟩
 case round=>
   clear M
   obtain⟨j,xo,hj,rfl,rfl,M,HO⟩:=hrel
   by_cases hlt:j<8
   · have hjI:(j:Int)<8:=by omega
     have hd:decide ((j:Int)<8)=true:=by simpa using hjI
     have cj:=Blk.rpa ((unhide M).at 0 _ rfl) hlt
     cases hf:r.pa j with
     | true=>
       have cj2:wr.cell? ⟨b,10+j,none⟩=some (.bool true):=by rw [← hf];exact cj
       have HD:Hid (r.discTo p (j+1)=r.discTo p j++ [⟨6,j,0,0,0,p⟩]):=by show _=_;simp [Rk.discTo,lstTo,hf]
       clear cj hf
       go_wp2_with (first |(refine wpBuildP (by rfl) #[(0,.const (.int .i64 6)),(1,.tmp 33),(5,.tmp 34)] (by rfl) #[(0,.int .i64 6),(1,.int .i64 j),(5,.int .i64 p)] (by kernel_rfl) (Od.C ⟨6,j,0,0,0,p⟩) (bod _ 6 j p) ?_;refine Stp.go ?_))
       constructor
       go_wp2_with (first |(refine wpBs28 rfl (.tmp 35) rfl ⟨6,j,0,0,0,p⟩ rfl ?_;intro W2 g2 e2 B2 K2;have HB2:=hide B2;replace M:=hide ((unhide M).step K2);replace HO:Hid (Ou w W2 xo (r.discTo p j)):=(unhide HO).kept K2 (by simp);clear e2 B2 K2 cj2;refine Stp.go ?_))
       constructor
       go_wp2_with (first |(refine wpAppN el28 rfl (.tmp 32) (.tmp 36) rfl xo _ _ rfl (unhide HO) _ 1 (Od.C ⟨6,j,0,0,0,p⟩) rfl (Rw.made (unhide HB2) rfl (max1000 (by omega))) (Od.one _) (by have:=discTo_len r p j;omega) (max1000 (by have:=discTo_len r p j;omega)) (unhide M).kept.size ?_;intro v3 W3 N3 K3;have HO3:Hid (Ou w W3 v3 (r.discTo p (j+1))):=(by rw [unhide HD];exact New.app (m:= [⟨6,j,0,0,0,p⟩]) N3);replace M:Hid (Mm [b] w W3 [(b,80,r.C ln)]):=hide ((unhide M).grown K3 (unhide H).blk.lt (unhide HO).spare);clear N3 K3;refine Stp.go ?_))
       constructor
       go_wp2_with fail
       go_roundw
       case rel=>exact ⟨j+1,_,by omega,by go_num,rfl,M,HO3⟩
       case measure=>simp [intOf];omega
     | false=>
       have cj2:wr.cell? ⟨b,10+j,none⟩=some (.bool false):=by rw [← hf];exact cj
       have HD:Hid (r.discTo p (j+1)=r.discTo p j):=by show _=_;simp [Rk.discTo,lstTo,hf]
       clear cj hf
       go_wp2_with fail
       go_roundw
       case rel=>exact ⟨j+1,_,by omega,by go_num,rfl,M,by rw [unhide HD];exact HO⟩
       case measure=>simp [intOf];omega
   · have hd:decide ((j:Int)<8)=false:=by simp;omega
     have HJ:Hid (j=8):=by show _=_;omega
     replace HO:Hid (Ou w wr xo (r.discTo p 8)):=by have h9:=unhide HO;rw [unhide HJ] at h9;exact h9
     have c1:wr.cell? ⟨b,1,none⟩=some (.int .i64 (n:Int)):=by rw [← unhide HO_];exact fits_cell ((unhide M).at 0 _ rfl) 1 _ rfl
     have co:=Blk.rops ((unhide M).at 0 _ rfl) hn
     go_wp2_with (first |(refine wpBuildZ (T:=78) (b8 no8) build45 rfl rfl ?_;refine Stp.go ?_))
     constructor
     go_wp2_with (first |(refine wpStK row45 rfl (.tmp 58) (.tmp 56) rfl rfl b (10) 0 (b8 no8) rfl rfl rfl (b8_one _) (unhide M) rfl (Nat.le_of_ble_eq_true rfl) (fun W h=>h.rpaP no8) ?_;intro W31 N31 KK;replace M:Hid (Mm [b] w W31 [(b,80,r.noPa.C ln)]):=hide N31;clear N31;replace HO:Hid (Ou w W31 xo (r.discTo p 8)):=⟨(unhide HO).row.kept KK (fun k hk=>by have:=(unhide HO).own k hk;have:=(unhide H).blk.lt;simp;omega),(unhide HO).own⟩;clear KK;clear c1 co;have c0:W31.cell? ⟨b,0,none⟩=some (.int .i64 r.x):=fits_cell ((unhide M).at 0 _ rfl) 0 _ rfl;refine Stp.go ?_))
     constructor
     go_wp2_with (first |(refine wpStK1 size3 rfl (.tmp 67) (.const (.int .i64 (-1))) rfl rfl b (1) 0 (.int .i64 (-1)) (⟨rfl,rfl⟩) rfl rfl (unhide M) rfl (show 1+1≤_ from Nat.le_of_ble_eq_true rfl) (rfl) ?_;intro W32 N32 KK;replace M:Hid (Mm [b] w W32 [(b,80,r.noPa.noOw1.C ln)]):=hide N32;clear N32;replace HO:Hid (Ou w W32 xo (r.discTo p 8)):=⟨(unhide HO).row.kept KK (fun k hk=>by have:=(unhide HO).own k hk;have:=(unhide H).blk.lt;simp;omega),(unhide HO).own⟩;clear KK;clear c0;have c29:W32.cell? ⟨b,29,none⟩=some (.int .i64 r.wt):=fits_cell ((unhide M).at 0 _ rfl) 29 _ rfl;refine Stp.go ?_))
     constructor
     go_wp2_with fail
     go_ret
     have hM:=unhide M
     exact⟨_,ln,rfl,unhide HO,hM.at 0 _ rfl,(unhide H).row1 hM.kept,hM.kept.mono (by simp),Grw.refl _ _⟩
theorem rwrote_i (r:Rk) (ln:Value) (b:Nat) (L:List Wi) (n:Nat) (p:Int) (w:World) (h:Rs w b ln r L) (hn:n<8) (hp:¬p<0) (hq:¬p>2147483647) (hO:r.ow=(n:Int)) (hx:¬r.x=(n:Int)) (hF:r.wt=3):Calls Try.prog 32 #[P0 b,.int .i64 n,.int .i64 (r.ops n),.int .i64 p] w (RC b ln w (rmore (r.discTo p 8) (rdone r.noPa.noOw1 L))):=by
 have H:=hide h
 have M:=hide (Mm.one h.blk)
 have hnI:(n:Int)<8:=by omega
 have P47:=t47 (n:=n) (by omega)
 have hpd:decide (p<0)=false:=by simpa using hp
 have hqd:decide (p>2147483647)=false:=by simpa using hq
 have HO_:=hide hO
 clear hO
 have hxa:decide (r.x=(n:Int))=false:=nef_a hx
 have hxb:(r.x == (n:Int))=false:=nef_b hx
 have hxc:(r.x !=(n:Int))=true:=nef_c hx
 have HF:=hide hF
 clear hF
 clear h
 go_enter Try.func32,Try.ntmps32
 go_wp2_with (first |(go_at_call 26;refine(unhide (P47 _)).mono ?_;rintro e W11 ⟨rfl,q11⟩;replace q11:=q11.symm;subst q11;refine Stp.go ?_))
 constructor
 go_wp2_with fail
 go_loopw [9,10] (fun u i wr=>∃(j:Nat) (xo:Value),j≤8∧i= .int .i64 j∧xo=u∧Hid (Mm [b] w wr [(b,80,r.C ln)])∧Hid (Ou w wr xo (r.discTo p j))) (fun _ i _=>8-(intOf i).toNat)
 case atStart=>exact ⟨0,_,by omega,rfl,rfl,M,New.nil _ _ _ _⟩
 case round=>
   clear M
   obtain⟨j,xo,hj,rfl,rfl,M,HO⟩:=hrel
   by_cases hlt:j<8
   · have hjI:(j:Int)<8:=by omega
     have hd:decide ((j:Int)<8)=true:=by simpa using hjI
     have cj:=Blk.rpa ((unhide M).at 0 _ rfl) hlt
     cases hf:r.pa j with
     | true=>
       have cj2:wr.cell? ⟨b,10+j,none⟩=some (.bool true):=by rw [← hf];exact cj
       have HD:Hid (r.discTo p (j+1)=r.discTo p j++ [⟨6,j,0,0,0,p⟩]):=by show _=_;simp [Rk.discTo,lstTo,hf]
       clear cj hf
       go_wp2_with (first |(refine wpBuildP (by rfl) #[(0,.const (.int .i64 6)),(1,.tmp 33),(5,.tmp 34)] (by rfl) #[(0,.int .i64 6),(1,.int .i64 j),(5,.int .i64 p)] (by kernel_rfl) (Od.C ⟨6,j,0,0,0,p⟩) (bod _ 6 j p) ?_;refine Stp.go ?_))
       constructor
       go_wp2_with (first |(refine wpBs28 rfl (.tmp 35) rfl ⟨6,j,0,0,0,p⟩ rfl ?_;intro W2 g2 e2 B2 K2;have HB2:=hide B2;replace M:=hide ((unhide M).step K2);replace HO:Hid (Ou w W2 xo (r.discTo p j)):=(unhide HO).kept K2 (by simp);clear e2 B2 K2 cj2;refine Stp.go ?_))
       constructor
       go_wp2_with (first |(refine wpAppN el28 rfl (.tmp 32) (.tmp 36) rfl xo _ _ rfl (unhide HO) _ 1 (Od.C ⟨6,j,0,0,0,p⟩) rfl (Rw.made (unhide HB2) rfl (max1000 (by omega))) (Od.one _) (by have:=discTo_len r p j;omega) (max1000 (by have:=discTo_len r p j;omega)) (unhide M).kept.size ?_;intro v3 W3 N3 K3;have HO3:Hid (Ou w W3 v3 (r.discTo p (j+1))):=(by rw [unhide HD];exact New.app (m:= [⟨6,j,0,0,0,p⟩]) N3);replace M:Hid (Mm [b] w W3 [(b,80,r.C ln)]):=hide ((unhide M).grown K3 (unhide H).blk.lt (unhide HO).spare);clear N3 K3;refine Stp.go ?_))
       constructor
       go_wp2_with fail
       go_roundw
       case rel=>exact ⟨j+1,_,by omega,by go_num,rfl,M,HO3⟩
       case measure=>simp [intOf];omega
     | false=>
       have cj2:wr.cell? ⟨b,10+j,none⟩=some (.bool false):=by rw [← hf];exact cj
       have HD:Hid (r.discTo p (j+1)=r.discTo p j):=by show _=_;simp [Rk.discTo,lstTo,hf]
       clear cj hf
       go_wp2_with fail
       go_roundw
       case rel=>exact ⟨j+1,_,by omega,by go_num,rfl,M,by rw [unhide HD];exact HO⟩
       case measure=>simp [intOf];omega
   · have hd:decide ((j:Int)<8)=false:=by simp;omega
     have HJ:Hid (j=8):=by show _=_;omega
     replace HO:Hid (Ou w wr xo (r.discTo p 8)):=by have h9:=unhide HO;rw [unhide HJ] at h9;exact h9
     have c1:wr.cell? ⟨b,1,none⟩=some (.int .i64 (n:Int)):=by rw [← unhide HO_];exact fits_cell ((unhide M).at 0 _ rfl) 1 _ rfl
     have co:=Blk.rops ((unhide M).at 0 _ rfl) hn
     go_wp2_with (first |(refine wpBuildZ (T:=78) (b8 no8) build45 rfl rfl ?_;refine Stp.go ?_))
     constructor
     go_wp2_with (first |(refine wpStK row45 rfl (.tmp 58) (.tmp 56) rfl rfl b (10) 0 (b8 no8) rfl rfl rfl (b8_one _) (unhide M) rfl (Nat.le_of_ble_eq_true rfl) (fun W h=>h.rpaP no8) ?_;intro W31 N31 KK;replace M:Hid (Mm [b] w W31 [(b,80,r.noPa.C ln)]):=hide N31;clear N31;replace HO:Hid (Ou w W31 xo (r.discTo p 8)):=⟨(unhide HO).row.kept KK (fun k hk=>by have:=(unhide HO).own k hk;have:=(unhide H).blk.lt;simp;omega),(unhide HO).own⟩;clear KK;clear c1 co;have c0:W31.cell? ⟨b,0,none⟩=some (.int .i64 r.x):=fits_cell ((unhide M).at 0 _ rfl) 0 _ rfl;refine Stp.go ?_))
     constructor
     go_wp2_with (first |(refine wpStK1 size3 rfl (.tmp 67) (.const (.int .i64 (-1))) rfl rfl b (1) 0 (.int .i64 (-1)) (⟨rfl,rfl⟩) rfl rfl (unhide M) rfl (show 1+1≤_ from Nat.le_of_ble_eq_true rfl) (rfl) ?_;intro W32 N32 KK;replace M:Hid (Mm [b] w W32 [(b,80,r.noPa.noOw1.C ln)]):=hide N32;clear N32;replace HO:Hid (Ou w W32 xo (r.discTo p 8)):=⟨(unhide HO).row.kept KK (fun k hk=>by have:=(unhide HO).own k hk;have:=(unhide H).blk.lt;simp;omega),(unhide HO).own⟩;clear KK;clear c0;have c29:W32.cell? ⟨b,29,none⟩=some (.int .i64 3):=(by rw [← unhide HF];exact fits_cell ((unhide M).at 0 _ rfl) 29 _ rfl);refine Stp.go ?_))
     constructor
     go_wp2_with (first |(go_at_call 62;refine(rdone62 L r.noPa.noOw1 ln b _ ((unhide M).at 0 _ rfl) ((unhide H).row1 (unhide M).kept) (rnoOw_ok (rnoPa_ok (unhide H).ok)) (unhide H).all (by have:=(unhide H).len;omega) (unhide H).op0 (by show r.op+L.length≤1000000;have:=(unhide H).op1;omega)).mono ?_;rintro e W90 ⟨v4,ln2,rfl,N4,B4,R4,K4,S4⟩;have HN4:=hide N4.row;have HO3:Hid (Ou w W90 xo (r.discTo p 8)):=(unhide HO).kept K4 (elder_not (unhide H).blk (unhide H).row);have HB4:=hide B4;have HR4:=hide R4;have HK4:Hid (Kept (b::spare ln) w W90):=((unhide M).kept.mono (by simp)).trans K4;have HS4:Hid (Grw w ln ln2):=S4.elder (unhide M).kept.size;clear N4 B4 R4 K4 S4 HO c29;refine Stp.go ?_))
     constructor
     go_wp2_with (first |(refine wpAppN el28 rfl (.tmp 73) (.tmp 75) rfl xo _ _ rfl (unhide HO3) v4 _ _ rfl (unhide HN4) (odC_one _) (by have:=rdone_len L r.noPa.noOw1;have:=(unhide H).len;have:=discTo_len r p 8;omega) (max1000 (by have:=rdone_len L r.noPa.noOw1;have:=(unhide H).len;have:=discTo_len r p 8;omega)) (unhide HK4).size ?_;intro v5 W5 N5 K5;have HO5:Hid (Ou w W5 v5 ((r.discTo p 8)++(rdone r.noPa.noOw1 L).2.2)):=New.app N5;have HB5:Hid (Blk W5 b 80 ((rdone r.noPa.noOw1 L).1.C ln2)):=(unhide HB4).kept K5 (fun hi=>by have:=(unhide HO3).spare b hi;have:=(unhide H).blk.lt;omega);have HR5:Hid (Ws W5 ln2 (rdone r.noPa.noOw1 L).2.1):=(unhide HR4).kept K5 ((unhide HR4).apart (unhide HO3).row (by decide));have HK5:Hid (Kept (b::spare ln) w W5):=(unhide HK4).fresh K5 (fun i hi hl=>by have:=(unhide HO3).spare i hi;omega);clear N5 K5;refine Stp.go ?_))
     constructor
     go_wp2_with fail
     go_ret
     exact⟨v5,ln2,rfl,unhide HO5,unhide HB5,unhide HR5,unhide HK5,unhide HS4⟩
theorem rwrote38 (r:Rk) (ln:Value) (b:Nat) (L:List Wi) (m c p:Int) (w:World) (h:Rs w b ln r L):Calls Try.prog 32 #[P0 b,.int .i64 m,.int .i64 c,.int .i64 p] w (RC b ln w (rwroteP r L m c p)):=by
 unfold rwroteP
 cases hm:isN m with
 | false=>rw [if_neg (by simp)];exact rwrote_a r ln b L m c p w h hm
 | true=>
   have h1:0≤m∧m<8:=by simpa [isN] using hm
   obtain⟨n,rfl⟩:∃n:Nat,m=n:=⟨m.toNat,by omega⟩
   have hn:n<8:=by omega
   by_cases hp:p<0
   · rw [if_neg (by simp;omega)];exact rwrote_b r ln b L n c p w h hn hp
   by_cases hq:p>2147483647
   · rw [if_neg (by simp;omega)];exact rwrote_c r ln b L n c p w h hn hp hq
   rw [if_pos ⟨rfl,by omega,by omega⟩]
   simp only [Int.toNat_natCast]
   unfold rwroteN
   by_cases hO:r.ow=(n:Int)
   · by_cases hc:r.ops n=c
     · subst hc
       rw [if_pos ⟨hO,rfl⟩]
       by_cases hx:r.x=(n:Int)
       · rw [if_pos hx]
         by_cases hF:r.wt=3
         · rw [if_pos hF];exact rwrote_g r ln b L n p w h hn hp hq hO hx hF
         · rw [if_neg hF];exact rwrote_f r ln b L n p w h hn hp hq hO hx hF
       · rw [if_neg hx]
         by_cases hF:r.wt=3
         · rw [if_pos hF];exact rwrote_i r ln b L n p w h hn hp hq hO hx hF
         · rw [if_neg hF];exact rwrote_h r ln b L n p w h hn hp hq hO hx hF
     · rw [if_neg (by simp [hc])];exact rwrote_e r ln b L n c p w h hn hp hq hO hc
   · rw [if_neg (by simp [hO])];exact rwrote_d r ln b L n c p w h hn hp hq hO
end Go.Proofs.Ytbigongmlpoahaa
