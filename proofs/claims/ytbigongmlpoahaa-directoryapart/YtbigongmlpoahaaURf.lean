import Derived.Test.YtbigongmlpoahaaURe
namespace Go.Proofs.Ytbigongmlpoahaa
set_option maxHeartbeats 2000000
set_option maxRecDepth 100000
set_option linter.unusedSimpArgs false
open Go.RowKit
def Rk.rel1 (r:Rk) (n:Nat):Rk:= { r with sh:=upd r.sh n false,ops:=upd r.ops n 0 }
def Rk.noX (r:Rk):Rk:= { r with x:= -1 }
def Rk.noOw (r:Rk):Rk:= { r with ow:= -1 }
def Rk.opUp (r:Rk):Rk:= { r with op:=r.op+1 }
def Rk.rel (r:Rk) (n:Nat):Rk:= { r with sh:=upd r.sh n false,ops:=upd r.ops n 0,x:=if r.x=(n:Int) then -1 else r.x,ow:=if r.ow=(n:Int) then -1 else r.ow }
def rrelN (r:Rk) (L:List Wi) (n:Nat) (c:Int):Rk×List Wi×List Od:=
 if r.wt=1∧r.gn n=true then raway (r.rel n) L n
 else if r.wt=2∧r.su=(n:Int)∧c<r.op then rbegP (r.rel n).opUp L
 else if r.wt=3∧r.ow=(n:Int) then rneed (fun r'=>rdone r' L) (r.rel n)
 else (r.rel n,L,[])
def rrelP (r:Rk) (L:List Wi) (m c:Int):Rk×List Wi×List Od:=if isN m then rrelN r L m.toNat c else (r,L,[])
theorem ropUp_ok {r:Rk} (h:r.Ok):r.opUp.Ok:=⟨h.x,h.ow,h.su,h.hn⟩
theorem rel_ok {r:Rk} (h:r.Ok) (n:Nat):(r.rel n).Ok:=by
 have h1:=h.x
 have h2:=h.ow
 refine⟨?_,?_,h.su,h.hn⟩
 · simp only [Rk.rel];split <;> omega
 · simp only [Rk.rel];split <;> omega
theorem rrel_a (r:Rk) (ln:Value) (b:Nat) (L:List Wi) (m c:Int) (w:World) (h:Rs w b ln r L) (hm:isN m=false):Calls Try.prog 31 #[P0 b,.int .i64 m,.int .i64 c] w (RC b ln w (r,L,[])):=by
 have H:=hide h
 have M:=hide (Mm.one h.blk)
 have P47:∀W,Hid (Calls Try.prog 26 #[.int .i64 m] W fun e w'=>e= .returned (.bool false)∧w'=W):=fun W=>hide (by have h9:=in47 m W;rw [show isN m=false by exact hm] at h9;exact h9)
 clear h hm
 go_enter Try.func31,Try.ntmps31
 go_wp2_with (first |(go_at_call 26;refine(unhide (P47 _)).mono ?_;rintro e W11 ⟨rfl,q11⟩;replace q11:=q11.symm;subst q11;refine Stp.go ?_))
 constructor
 go_wp2_with fail
 go_ret
 exact RC.none (unhide H).blk (unhide H).row (unhide M).kept ((unhide M).at 0 _ rfl)
theorem rrel_A (r:Rk) (ln:Value) (b:Nat) (L:List Wi) (n:Nat) (c:Int) (w:World) (h:Rs w b ln r L) (hn:n<8) (hx:¬r.x=(n:Int)) (ho:¬r.ow=(n:Int)) (hw:r.wt=1) (hg:r.gn n=true):Calls Try.prog 31 #[P0 b,.int .i64 n,.int .i64 c] w (RC b ln w (raway (r.rel n) L n)):=by
 have HEr:Hid (((r.rel1 n))=r.rel n):=by show _=_;simp [Rk.rel,Rk.rel1,hx,ho]
 have H:=hide h
 have M:=hide (Mm.one h.blk)
 have hnI:(n:Int)<8:=by omega
 have P47:=t47 (n:=n) (by omega)
 have c1:=fits_cell h.blk 1 _ rfl
 have hoa:decide (r.ow=(n:Int))=false:=nef_a ho
 have hob:(r.ow == (n:Int))=false:=nef_b ho
 have hoc:(r.ow !=(n:Int))=true:=nef_c ho
 have hxa:decide (r.x=(n:Int))=false:=nef_a hx
 have hxb:(r.x == (n:Int))=false:=nef_b hx
 have hxc:(r.x !=(n:Int))=true:=nef_c hx
 have HWt:=hide hw
 clear hw
 have HGn:=hide hg
 clear hg
 clear h
 go_enter Try.func31,Try.ntmps31
 go_wp2_with (first |(go_at_call 26;refine(unhide (P47 _)).mono ?_;rintro e W11 ⟨rfl,q11⟩;replace q11:=q11.symm;subst q11;refine Stp.go ?_))
 constructor
 go_wp2_with (first |(refine wpSt1 size4 rfl (.tmp 21) (.const (.bool false)) rfl rfl b (2+n) 0 (.bool false) (⟨rfl,rfl⟩) rfl rfl (unhide M) rfl (by show 2+n<40;omega) (Rk.sh_set r ln n hn false) ?_;intro W12 N12;replace M:Hid (Mm [b] w W12 [(b,80,({ r with sh:=upd r.sh n false } :Rk).C ln)]):=hide N12;clear N12;clear c1;refine Stp.go ?_))
 constructor
 go_wp2_with (first |(refine wpSt1 size2 rfl (.tmp 26) (.const (.int .i64 0)) rfl rfl b (18+n) 0 (.int .i64 0) (⟨rfl,rfl⟩) rfl rfl (unhide M) rfl (by show 18+n<40;omega) (Rk.ops_set _ ln n hn 0) ?_;intro W13 N13;replace M:Hid (Mm [b] w W13 [(b,80,(r.rel1 n).C ln)]):=hide N13;clear N13;have c0:W13.cell? ⟨b,0,none⟩=some (.int .i64 r.x):=fits_cell ((unhide M).at 0 _ rfl) 0 _ rfl;replace M:Hid (Mm [b] w W13 [(b,80,(r.rel n).C ln)]):=(by have h9:=unhide M;rw [unhide HEr] at h9;exact h9);have c29:W13.cell? ⟨b,29,none⟩=some (.int .i64 1):=(by rw [← unhide HWt];exact fits_cell ((unhide M).at 0 _ rfl) 29 _ rfl);have cg:W13.cell? ⟨b,30+n,none⟩=some (.bool true):=(by have h9:=Blk.rgn ((unhide M).at 0 _ rfl) hn;rw [show (r.rel n).gn n=_ from unhide HGn] at h9;exact h9);refine Stp.go ?_))
 constructor
 go_wp2_with (first |(go_at_call 63;refine(raway63 (r.rel n) ln b L n _ ⟨(unhide M).at 0 _ rfl,((unhide H).row1 (unhide M).kept),rel_ok (unhide H).ok n,(unhide H).all,(unhide H).op0,(unhide H).op1,(unhide H).len⟩ hn).mono ?_;rintro e W90 ⟨v,ln2,rfl,N9,B9,R9,K9,S9⟩;have HN:=hide (N9.elder (w:=w) (unhide M).kept.size);have HB9:=hide B9;have HR9:=hide R9;have HK9:Hid (Kept (b::spare ln) w W90):=((unhide M).kept.mono (by simp)).trans K9;have HS9:Hid (Grw w ln ln2):=S9.elder (unhide M).kept.size;clear N9 B9 R9 K9 S9 c29 c0 cg;refine Stp.go ?_))
 constructor
 go_wp2_with fail
 go_ret
 exact⟨v,ln2,rfl,unhide HN,unhide HB9,unhide HR9,unhide HK9,unhide HS9⟩
theorem rrel_B (r:Rk) (ln:Value) (b:Nat) (L:List Wi) (n:Nat) (c:Int) (w:World) (h:Rs w b ln r L) (hn:n<8) (hx:¬r.x=(n:Int)) (ho:¬r.ow=(n:Int)) (hw:r.wt=2) (hu:r.su=(n:Int)) (hc:c<r.op):Calls Try.prog 31 #[P0 b,.int .i64 n,.int .i64 c] w (RC b ln w (rbegP (r.rel n).opUp L)):=by
 have HEr:Hid (((r.rel1 n))=r.rel n):=by show _=_;simp [Rk.rel,Rk.rel1,hx,ho]
 have H:=hide h
 have M:=hide (Mm.one h.blk)
 have hnI:(n:Int)<8:=by omega
 have P47:=t47 (n:=n) (by omega)
 have c1:=fits_cell h.blk 1 _ rfl
 have hoa:decide (r.ow=(n:Int))=false:=nef_a ho
 have hob:(r.ow == (n:Int))=false:=nef_b ho
 have hoc:(r.ow !=(n:Int))=true:=nef_c ho
 have hxa:decide (r.x=(n:Int))=false:=nef_a hx
 have hxb:(r.x == (n:Int))=false:=nef_b hx
 have hxc:(r.x !=(n:Int))=true:=nef_c hx
 have HWt:=hide hw
 clear hw
 have HU:=hide hu
 clear hu
 have hcd:decide (c<r.op)=true:=by simpa using hc
 have o0:=h.op0
 have o1:r.op≤900000:=by have:=h.op1;omega
 clear h
 go_enter Try.func31,Try.ntmps31
 go_wp2_with (first |(go_at_call 26;refine(unhide (P47 _)).mono ?_;rintro e W11 ⟨rfl,q11⟩;replace q11:=q11.symm;subst q11;refine Stp.go ?_))
 constructor
 go_wp2_with (first |(refine wpSt1 size4 rfl (.tmp 21) (.const (.bool false)) rfl rfl b (2+n) 0 (.bool false) (⟨rfl,rfl⟩) rfl rfl (unhide M) rfl (by show 2+n<40;omega) (Rk.sh_set r ln n hn false) ?_;intro W12 N12;replace M:Hid (Mm [b] w W12 [(b,80,({ r with sh:=upd r.sh n false } :Rk).C ln)]):=hide N12;clear N12;clear c1;refine Stp.go ?_))
 constructor
 go_wp2_with (first |(refine wpSt1 size2 rfl (.tmp 26) (.const (.int .i64 0)) rfl rfl b (18+n) 0 (.int .i64 0) (⟨rfl,rfl⟩) rfl rfl (unhide M) rfl (by show 18+n<40;omega) (Rk.ops_set _ ln n hn 0) ?_;intro W13 N13;replace M:Hid (Mm [b] w W13 [(b,80,(r.rel1 n).C ln)]):=hide N13;clear N13;have c0:W13.cell? ⟨b,0,none⟩=some (.int .i64 r.x):=fits_cell ((unhide M).at 0 _ rfl) 0 _ rfl;replace M:Hid (Mm [b] w W13 [(b,80,(r.rel n).C ln)]):=(by have h9:=unhide M;rw [unhide HEr] at h9;exact h9);have c29:W13.cell? ⟨b,29,none⟩=some (.int .i64 2):=(by rw [← unhide HWt];exact fits_cell ((unhide M).at 0 _ rfl) 29 _ rfl);have c38:W13.cell? ⟨b,38,none⟩=some (.int .i64 (n:Int)):=(by rw [← unhide HU];exact fits_cell ((unhide M).at 0 _ rfl) 38 _ rfl);have c39:W13.cell? ⟨b,39,none⟩=some (.int .i64 r.op):=fits_cell ((unhide M).at 0 _ rfl) 39 _ rfl;refine Stp.go ?_))
 constructor
 go_wp2_with (first |(refine wpSt1 size2 rfl (.tmp 83) (.tmp 81) rfl rfl b (39) 0 (.int .i64 (r.op+1)) (⟨rfl,rfl⟩) rfl rfl (unhide M) rfl (show 39+1≤_ from Nat.le_of_ble_eq_true rfl) (rfl) ?_;intro W14 N14;replace M:Hid (Mm [b] w W14 [(b,80,(r.rel n).opUp.C ln)]):=hide N14;clear N14;clear c29 c0 c38 c39;refine Stp.go ?_))
 constructor
 go_wp2_with (first |(go_at_call 64;refine(rbegin64 L (r.rel n).opUp ln b _ ((unhide M).at 0 _ rfl) ((unhide H).row1 (unhide M).kept) (ropUp_ok (rel_ok (unhide H).ok n)) (unhide H).all (by have:=(unhide H).len;omega) (by show 0≤r.op+1;have:=(unhide H).op0;omega) (by show r.op+1+L.length≤1000000;have:=(unhide H).op1;omega)).mono ?_;rintro e W90 ⟨v,ln2,rfl,N9,B9,R9,K9,S9⟩;have HN:=hide (N9.elder (w:=w) (unhide M).kept.size);have HB9:=hide B9;have HR9:=hide R9;have HK9:Hid (Kept (b::spare ln) w W90):=((unhide M).kept.mono (by simp)).trans K9;have HS9:Hid (Grw w ln ln2):=S9.elder (unhide M).kept.size;clear N9 B9 R9 K9 S9;refine Stp.go ?_))
 constructor
 go_wp2_with fail
 go_ret
 exact⟨v,ln2,rfl,unhide HN,unhide HB9,unhide HR9,unhide HK9,unhide HS9⟩
theorem rrel_N1 (r:Rk) (ln:Value) (b:Nat) (L:List Wi) (n:Nat) (c:Int) (w:World) (h:Rs w b ln r L) (hn:n<8) (hx:¬r.x=(n:Int)) (ho:¬r.ow=(n:Int)) (hw:r.wt=1) (hg:r.gn n=false):Calls Try.prog 31 #[P0 b,.int .i64 n,.int .i64 c] w (RC b ln w ((r.rel n),L,[])):=by
 have HEr:Hid (((r.rel1 n))=r.rel n):=by show _=_;simp [Rk.rel,Rk.rel1,hx,ho]
 have H:=hide h
 have M:=hide (Mm.one h.blk)
 have hnI:(n:Int)<8:=by omega
 have P47:=t47 (n:=n) (by omega)
 have c1:=fits_cell h.blk 1 _ rfl
 have hoa:decide (r.ow=(n:Int))=false:=nef_a ho
 have hob:(r.ow == (n:Int))=false:=nef_b ho
 have hoc:(r.ow !=(n:Int))=true:=nef_c ho
 have hxa:decide (r.x=(n:Int))=false:=nef_a hx
 have hxb:(r.x == (n:Int))=false:=nef_b hx
 have hxc:(r.x !=(n:Int))=true:=nef_c hx
 have HWt:=hide hw
 clear hw
 have HGn:=hide hg
 clear hg
 clear h
 go_enter Try.func31,Try.ntmps31
 go_wp2_with (first |(go_at_call 26;refine(unhide (P47 _)).mono ?_;rintro e W11 ⟨rfl,q11⟩;replace q11:=q11.symm;subst q11;refine Stp.go ?_))
 constructor
 go_wp2_with (first |(refine wpSt1 size4 rfl (.tmp 21) (.const (.bool false)) rfl rfl b (2+n) 0 (.bool false) (⟨rfl,rfl⟩) rfl rfl (unhide M) rfl (by show 2+n<40;omega) (Rk.sh_set r ln n hn false) ?_;intro W12 N12;replace M:Hid (Mm [b] w W12 [(b,80,({ r with sh:=upd r.sh n false } :Rk).C ln)]):=hide N12;clear N12;clear c1;refine Stp.go ?_))
 constructor
 go_wp2_with (first |(refine wpSt1 size2 rfl (.tmp 26) (.const (.int .i64 0)) rfl rfl b (18+n) 0 (.int .i64 0) (⟨rfl,rfl⟩) rfl rfl (unhide M) rfl (by show 18+n<40;omega) (Rk.ops_set _ ln n hn 0) ?_;intro W13 N13;replace M:Hid (Mm [b] w W13 [(b,80,(r.rel1 n).C ln)]):=hide N13;clear N13;have c0:W13.cell? ⟨b,0,none⟩=some (.int .i64 r.x):=fits_cell ((unhide M).at 0 _ rfl) 0 _ rfl;replace M:Hid (Mm [b] w W13 [(b,80,(r.rel n).C ln)]):=(by have h9:=unhide M;rw [unhide HEr] at h9;exact h9);have c29:W13.cell? ⟨b,29,none⟩=some (.int .i64 1):=(by rw [← unhide HWt];exact fits_cell ((unhide M).at 0 _ rfl) 29 _ rfl);have cg:W13.cell? ⟨b,30+n,none⟩=some (.bool false):=(by have h9:=Blk.rgn ((unhide M).at 0 _ rfl) hn;rw [show (r.rel n).gn n=_ from unhide HGn] at h9;exact h9);refine Stp.go ?_))
 constructor
 go_wp2_with fail
 go_ret
 exact RR.rc (r:=(r.rel n,[])) ⟨_,rfl,New.nil _ _ _ _,(unhide M).at 0 _ rfl,(unhide M).kept⟩ (unhide H).blk (unhide H).row
theorem rrel_N2 (r:Rk) (ln:Value) (b:Nat) (L:List Wi) (n:Nat) (c:Int) (w:World) (h:Rs w b ln r L) (hn:n<8) (hx:¬r.x=(n:Int)) (ho:¬r.ow=(n:Int)) (hw:r.wt=2) (hu:¬r.su=(n:Int)):Calls Try.prog 31 #[P0 b,.int .i64 n,.int .i64 c] w (RC b ln w ((r.rel n),L,[])):=by
 have HEr:Hid (((r.rel1 n))=r.rel n):=by show _=_;simp [Rk.rel,Rk.rel1,hx,ho]
 have H:=hide h
 have M:=hide (Mm.one h.blk)
 have hnI:(n:Int)<8:=by omega
 have P47:=t47 (n:=n) (by omega)
 have c1:=fits_cell h.blk 1 _ rfl
 have hoa:decide (r.ow=(n:Int))=false:=nef_a ho
 have hob:(r.ow == (n:Int))=false:=nef_b ho
 have hoc:(r.ow !=(n:Int))=true:=nef_c ho
 have hxa:decide (r.x=(n:Int))=false:=nef_a hx
 have hxb:(r.x == (n:Int))=false:=nef_b hx
 have hxc:(r.x !=(n:Int))=true:=nef_c hx
 have HWt:=hide hw
 clear hw
 have hua:decide (r.su=(n:Int))=false:=nef_a hu
 have hub:(r.su == (n:Int))=false:=nef_b hu
 have huc:(r.su !=(n:Int))=true:=nef_c hu
 clear h
 go_enter Try.func31,Try.ntmps31
 go_wp2_with (first |(go_at_call 26;refine(unhide (P47 _)).mono ?_;rintro e W11 ⟨rfl,q11⟩;replace q11:=q11.symm;subst q11;refine Stp.go ?_))
 constructor
 go_wp2_with (first |(refine wpSt1 size4 rfl (.tmp 21) (.const (.bool false)) rfl rfl b (2+n) 0 (.bool false) (⟨rfl,rfl⟩) rfl rfl (unhide M) rfl (by show 2+n<40;omega) (Rk.sh_set r ln n hn false) ?_;intro W12 N12;replace M:Hid (Mm [b] w W12 [(b,80,({ r with sh:=upd r.sh n false } :Rk).C ln)]):=hide N12;clear N12;clear c1;refine Stp.go ?_))
 constructor
 go_wp2_with (first |(refine wpSt1 size2 rfl (.tmp 26) (.const (.int .i64 0)) rfl rfl b (18+n) 0 (.int .i64 0) (⟨rfl,rfl⟩) rfl rfl (unhide M) rfl (by show 18+n<40;omega) (Rk.ops_set _ ln n hn 0) ?_;intro W13 N13;replace M:Hid (Mm [b] w W13 [(b,80,(r.rel1 n).C ln)]):=hide N13;clear N13;have c0:W13.cell? ⟨b,0,none⟩=some (.int .i64 r.x):=fits_cell ((unhide M).at 0 _ rfl) 0 _ rfl;replace M:Hid (Mm [b] w W13 [(b,80,(r.rel n).C ln)]):=(by have h9:=unhide M;rw [unhide HEr] at h9;exact h9);have c29:W13.cell? ⟨b,29,none⟩=some (.int .i64 2):=(by rw [← unhide HWt];exact fits_cell ((unhide M).at 0 _ rfl) 29 _ rfl);have c38:W13.cell? ⟨b,38,none⟩=some (.int .i64 r.su):=fits_cell ((unhide M).at 0 _ rfl) 38 _ rfl;refine Stp.go ?_))
 constructor
 go_wp2_with fail
 go_ret
 exact RR.rc (r:=(r.rel n,[])) ⟨_,rfl,New.nil _ _ _ _,(unhide M).at 0 _ rfl,(unhide M).kept⟩ (unhide H).blk (unhide H).row
theorem rrel_N3 (r:Rk) (ln:Value) (b:Nat) (L:List Wi) (n:Nat) (c:Int) (w:World) (h:Rs w b ln r L) (hn:n<8) (hx:¬r.x=(n:Int)) (ho:¬r.ow=(n:Int)) (hw:r.wt=2) (hu:r.su=(n:Int)) (hc:¬c<r.op):Calls Try.prog 31 #[P0 b,.int .i64 n,.int .i64 c] w (RC b ln w ((r.rel n),L,[])):=by
 have HEr:Hid (((r.rel1 n))=r.rel n):=by show _=_;simp [Rk.rel,Rk.rel1,hx,ho]
 have H:=hide h
 have M:=hide (Mm.one h.blk)
 have hnI:(n:Int)<8:=by omega
 have P47:=t47 (n:=n) (by omega)
 have c1:=fits_cell h.blk 1 _ rfl
 have hoa:decide (r.ow=(n:Int))=false:=nef_a ho
 have hob:(r.ow == (n:Int))=false:=nef_b ho
 have hoc:(r.ow !=(n:Int))=true:=nef_c ho
 have hxa:decide (r.x=(n:Int))=false:=nef_a hx
 have hxb:(r.x == (n:Int))=false:=nef_b hx
 have hxc:(r.x !=(n:Int))=true:=nef_c hx
 have HWt:=hide hw
 clear hw
 have HU:=hide hu
 clear hu
 have hcd:decide (c<r.op)=false:=by simpa using hc
 clear h
 go_enter Try.func31,Try.ntmps31
 go_wp2_with (first |(go_at_call 26;refine(unhide (P47 _)).mono ?_;rintro e W11 ⟨rfl,q11⟩;replace q11:=q11.symm;subst q11;refine Stp.go ?_))
 constructor
 go_wp2_with (first |(refine wpSt1 size4 rfl (.tmp 21) (.const (.bool false)) rfl rfl b (2+n) 0 (.bool false) (⟨rfl,rfl⟩) rfl rfl (unhide M) rfl (by show 2+n<40;omega) (Rk.sh_set r ln n hn false) ?_;intro W12 N12;replace M:Hid (Mm [b] w W12 [(b,80,({ r with sh:=upd r.sh n false } :Rk).C ln)]):=hide N12;clear N12;clear c1;refine Stp.go ?_))
 constructor
 go_wp2_with (first |(refine wpSt1 size2 rfl (.tmp 26) (.const (.int .i64 0)) rfl rfl b (18+n) 0 (.int .i64 0) (⟨rfl,rfl⟩) rfl rfl (unhide M) rfl (by show 18+n<40;omega) (Rk.ops_set _ ln n hn 0) ?_;intro W13 N13;replace M:Hid (Mm [b] w W13 [(b,80,(r.rel1 n).C ln)]):=hide N13;clear N13;have c0:W13.cell? ⟨b,0,none⟩=some (.int .i64 r.x):=fits_cell ((unhide M).at 0 _ rfl) 0 _ rfl;replace M:Hid (Mm [b] w W13 [(b,80,(r.rel n).C ln)]):=(by have h9:=unhide M;rw [unhide HEr] at h9;exact h9);have c29:W13.cell? ⟨b,29,none⟩=some (.int .i64 2):=(by rw [← unhide HWt];exact fits_cell ((unhide M).at 0 _ rfl) 29 _ rfl);have c38:W13.cell? ⟨b,38,none⟩=some (.int .i64 (n:Int)):=(by rw [← unhide HU];exact fits_cell ((unhide M).at 0 _ rfl) 38 _ rfl);have c39:W13.cell? ⟨b,39,none⟩=some (.int .i64 r.op):=fits_cell ((unhide M).at 0 _ rfl) 39 _ rfl;refine Stp.go ?_))
 constructor
 go_wp2_with fail
 go_ret
 exact RR.rc (r:=(r.rel n,[])) ⟨_,rfl,New.nil _ _ _ _,(unhide M).at 0 _ rfl,(unhide M).kept⟩ (unhide H).blk (unhide H).row
theorem rrel_N4 (r:Rk) (ln:Value) (b:Nat) (L:List Wi) (n:Nat) (c:Int) (w:World) (h:Rs w b ln r L) (hn:n<8) (hx:¬r.x=(n:Int)) (ho:¬r.ow=(n:Int)) (hw:r.wt=3):Calls Try.prog 31 #[P0 b,.int .i64 n,.int .i64 c] w (RC b ln w ((r.rel n),L,[])):=by
 have HEr:Hid (((r.rel1 n))=r.rel n):=by show _=_;simp [Rk.rel,Rk.rel1,hx,ho]
 have H:=hide h
 have M:=hide (Mm.one h.blk)
 have hnI:(n:Int)<8:=by omega
 have P47:=t47 (n:=n) (by omega)
 have c1:=fits_cell h.blk 1 _ rfl
 have hoa:decide (r.ow=(n:Int))=false:=nef_a ho
 have hob:(r.ow == (n:Int))=false:=nef_b ho
 have hoc:(r.ow !=(n:Int))=true:=nef_c ho
 have hxa:decide (r.x=(n:Int))=false:=nef_a hx
 have hxb:(r.x == (n:Int))=false:=nef_b hx
 have hxc:(r.x !=(n:Int))=true:=nef_c hx
 have HWt:=hide hw
 clear hw
 clear h
 go_enter Try.func31,Try.ntmps31
 go_wp2_with (first |(go_at_call 26;refine(unhide (P47 _)).mono ?_;rintro e W11 ⟨rfl,q11⟩;replace q11:=q11.symm;subst q11;refine Stp.go ?_))
 constructor
 go_wp2_with (first |(refine wpSt1 size4 rfl (.tmp 21) (.const (.bool false)) rfl rfl b (2+n) 0 (.bool false) (⟨rfl,rfl⟩) rfl rfl (unhide M) rfl (by show 2+n<40;omega) (Rk.sh_set r ln n hn false) ?_;intro W12 N12;replace M:Hid (Mm [b] w W12 [(b,80,({ r with sh:=upd r.sh n false } :Rk).C ln)]):=hide N12;clear N12;clear c1;refine Stp.go ?_))
 constructor
 go_wp2_with (first |(refine wpSt1 size2 rfl (.tmp 26) (.const (.int .i64 0)) rfl rfl b (18+n) 0 (.int .i64 0) (⟨rfl,rfl⟩) rfl rfl (unhide M) rfl (by show 18+n<40;omega) (Rk.ops_set _ ln n hn 0) ?_;intro W13 N13;replace M:Hid (Mm [b] w W13 [(b,80,(r.rel1 n).C ln)]):=hide N13;clear N13;have c0:W13.cell? ⟨b,0,none⟩=some (.int .i64 r.x):=fits_cell ((unhide M).at 0 _ rfl) 0 _ rfl;replace M:Hid (Mm [b] w W13 [(b,80,(r.rel n).C ln)]):=(by have h9:=unhide M;rw [unhide HEr] at h9;exact h9);have c29:W13.cell? ⟨b,29,none⟩=some (.int .i64 3):=(by rw [← unhide HWt];exact fits_cell ((unhide M).at 0 _ rfl) 29 _ rfl);refine Stp.go ?_))
 constructor
 go_wp2_with fail
 go_ret
 exact RR.rc (r:=(r.rel n,[])) ⟨_,rfl,New.nil _ _ _ _,(unhide M).at 0 _ rfl,(unhide M).kept⟩ (unhide H).blk (unhide H).row
theorem rrel_N5 (r:Rk) (ln:Value) (b:Nat) (L:List Wi) (n:Nat) (c:Int) (w:World) (h:Rs w b ln r L) (hn:n<8) (hx:¬r.x=(n:Int)) (ho:¬r.ow=(n:Int)) (w1:¬r.wt=1) (w2:¬r.wt=2) (w3:¬r.wt=3):Calls Try.prog 31 #[P0 b,.int .i64 n,.int .i64 c] w (RC b ln w ((r.rel n),L,[])):=by
 have HEr:Hid (((r.rel1 n))=r.rel n):=by show _=_;simp [Rk.rel,Rk.rel1,hx,ho]
 have H:=hide h
 have M:=hide (Mm.one h.blk)
 have hnI:(n:Int)<8:=by omega
 have P47:=t47 (n:=n) (by omega)
 have c1:=fits_cell h.blk 1 _ rfl
 have hoa:decide (r.ow=(n:Int))=false:=nef_a ho
 have hob:(r.ow == (n:Int))=false:=nef_b ho
 have hoc:(r.ow !=(n:Int))=true:=nef_c ho
 have hxa:decide (r.x=(n:Int))=false:=nef_a hx
 have hxb:(r.x == (n:Int))=false:=nef_b hx
 have hxc:(r.x !=(n:Int))=true:=nef_c hx
 have w1a:decide (r.wt=1)=false:=nef_a w1
 have w1b:(r.wt == 1)=false:=nef_b w1
 have w1c:(r.wt !=1)=true:=nef_c w1
 have w2a:decide (r.wt=2)=false:=nef_a w2
 have w2b:(r.wt == 2)=false:=nef_b w2
 have w2c:(r.wt !=2)=true:=nef_c w2
 have w3a:decide (r.wt=3)=false:=nef_a w3
 have w3b:(r.wt == 3)=false:=nef_b w3
 have w3c:(r.wt !=3)=true:=nef_c w3
 clear h
 go_enter Try.func31,Try.ntmps31
 go_wp2_with (first |(go_at_call 26;refine(unhide (P47 _)).mono ?_;rintro e W11 ⟨rfl,q11⟩;replace q11:=q11.symm;subst q11;refine Stp.go ?_))
 constructor
 go_wp2_with (first |(refine wpSt1 size4 rfl (.tmp 21) (.const (.bool false)) rfl rfl b (2+n) 0 (.bool false) (⟨rfl,rfl⟩) rfl rfl (unhide M) rfl (by show 2+n<40;omega) (Rk.sh_set r ln n hn false) ?_;intro W12 N12;replace M:Hid (Mm [b] w W12 [(b,80,({ r with sh:=upd r.sh n false } :Rk).C ln)]):=hide N12;clear N12;clear c1;refine Stp.go ?_))
 constructor
 go_wp2_with (first |(refine wpSt1 size2 rfl (.tmp 26) (.const (.int .i64 0)) rfl rfl b (18+n) 0 (.int .i64 0) (⟨rfl,rfl⟩) rfl rfl (unhide M) rfl (by show 18+n<40;omega) (Rk.ops_set _ ln n hn 0) ?_;intro W13 N13;replace M:Hid (Mm [b] w W13 [(b,80,(r.rel1 n).C ln)]):=hide N13;clear N13;have c0:W13.cell? ⟨b,0,none⟩=some (.int .i64 r.x):=fits_cell ((unhide M).at 0 _ rfl) 0 _ rfl;replace M:Hid (Mm [b] w W13 [(b,80,(r.rel n).C ln)]):=(by have h9:=unhide M;rw [unhide HEr] at h9;exact h9);have c29:W13.cell? ⟨b,29,none⟩=some (.int .i64 r.wt):=fits_cell ((unhide M).at 0 _ rfl) 29 _ rfl;refine Stp.go ?_))
 constructor
 go_wp2_with fail
 go_ret
 exact RR.rc (r:=(r.rel n,[])) ⟨_,rfl,New.nil _ _ _ _,(unhide M).at 0 _ rfl,(unhide M).kept⟩ (unhide H).blk (unhide H).row
theorem rrel_Ao (r:Rk) (ln:Value) (b:Nat) (L:List Wi) (n:Nat) (c:Int) (w:World) (h:Rs w b ln r L) (hn:n<8) (hx:¬r.x=(n:Int)) (ho:  r.ow=(n:Int)) (hw:r.wt=1) (hg:r.gn n=true):Calls Try.prog 31 #[P0 b,.int .i64 n,.int .i64 c] w (RC b ln w (raway (r.rel n) L n)):=by
 have HEr:Hid (((r.rel1 n).noOw)=r.rel n):=by show _=_;simp [Rk.rel,Rk.rel1,Rk.noOw,hx,ho]
 have H:=hide h
 have M:=hide (Mm.one h.blk)
 have hnI:(n:Int)<8:=by omega
 have P47:=t47 (n:=n) (by omega)
 have c1:=fits_cell h.blk 1 _ rfl
 rw [ho] at c1
 clear ho
 have hxa:decide (r.x=(n:Int))=false:=nef_a hx
 have hxb:(r.x == (n:Int))=false:=nef_b hx
 have hxc:(r.x !=(n:Int))=true:=nef_c hx
 have HWt:=hide hw
 clear hw
 have HGn:=hide hg
 clear hg
 clear h
 go_enter Try.func31,Try.ntmps31
 go_wp2_with (first |(go_at_call 26;refine(unhide (P47 _)).mono ?_;rintro e W11 ⟨rfl,q11⟩;replace q11:=q11.symm;subst q11;refine Stp.go ?_))
 constructor
 go_wp2_with (first |(refine wpSt1 size4 rfl (.tmp 21) (.const (.bool false)) rfl rfl b (2+n) 0 (.bool false) (⟨rfl,rfl⟩) rfl rfl (unhide M) rfl (by show 2+n<40;omega) (Rk.sh_set r ln n hn false) ?_;intro W12 N12;replace M:Hid (Mm [b] w W12 [(b,80,({ r with sh:=upd r.sh n false } :Rk).C ln)]):=hide N12;clear N12;clear c1;refine Stp.go ?_))
 constructor
 go_wp2_with (first |(refine wpSt1 size2 rfl (.tmp 26) (.const (.int .i64 0)) rfl rfl b (18+n) 0 (.int .i64 0) (⟨rfl,rfl⟩) rfl rfl (unhide M) rfl (by show 18+n<40;omega) (Rk.ops_set _ ln n hn 0) ?_;intro W13 N13;replace M:Hid (Mm [b] w W13 [(b,80,(r.rel1 n).C ln)]):=hide N13;clear N13;have c0:W13.cell? ⟨b,0,none⟩=some (.int .i64 r.x):=fits_cell ((unhide M).at 0 _ rfl) 0 _ rfl;refine Stp.go ?_))
 constructor
 go_wp2_with (first |(refine wpSt1 size3 rfl (.tmp 39) (.const (.int .i64 (-1))) rfl rfl b (1) 0 (.int .i64 (-1)) (⟨rfl,rfl⟩) rfl rfl (unhide M) rfl (show 1+1≤_ from Nat.le_of_ble_eq_true rfl) (rfl) ?_;intro W14 N14;replace M:Hid (Mm [b] w W14 [(b,80,(r.rel1 n).noOw.C ln)]):=hide N14;clear N14;clear c0;replace M:Hid (Mm [b] w W14 [(b,80,(r.rel n).C ln)]):=(by have h9:=unhide M;rw [unhide HEr] at h9;exact h9);have c29:W14.cell? ⟨b,29,none⟩=some (.int .i64 1):=(by rw [← unhide HWt];exact fits_cell ((unhide M).at 0 _ rfl) 29 _ rfl);have cg:W14.cell? ⟨b,30+n,none⟩=some (.bool true):=(by have h9:=Blk.rgn ((unhide M).at 0 _ rfl) hn;rw [show (r.rel n).gn n=_ from unhide HGn] at h9;exact h9);refine Stp.go ?_))
 constructor
 go_wp2_with (first |(go_at_call 63;refine(raway63 (r.rel n) ln b L n _ ⟨(unhide M).at 0 _ rfl,((unhide H).row1 (unhide M).kept),rel_ok (unhide H).ok n,(unhide H).all,(unhide H).op0,(unhide H).op1,(unhide H).len⟩ hn).mono ?_;rintro e W90 ⟨v,ln2,rfl,N9,B9,R9,K9,S9⟩;have HN:=hide (N9.elder (w:=w) (unhide M).kept.size);have HB9:=hide B9;have HR9:=hide R9;have HK9:Hid (Kept (b::spare ln) w W90):=((unhide M).kept.mono (by simp)).trans K9;have HS9:Hid (Grw w ln ln2):=S9.elder (unhide M).kept.size;clear N9 B9 R9 K9 S9 c29 cg;refine Stp.go ?_))
 constructor
 go_wp2_with fail
 go_ret
 exact⟨v,ln2,rfl,unhide HN,unhide HB9,unhide HR9,unhide HK9,unhide HS9⟩
theorem rrel_Bo (r:Rk) (ln:Value) (b:Nat) (L:List Wi) (n:Nat) (c:Int) (w:World) (h:Rs w b ln r L) (hn:n<8) (hx:¬r.x=(n:Int)) (ho:  r.ow=(n:Int)) (hw:r.wt=2) (hu:r.su=(n:Int)) (hc:c<r.op):Calls Try.prog 31 #[P0 b,.int .i64 n,.int .i64 c] w (RC b ln w (rbegP (r.rel n).opUp L)):=by
 have HEr:Hid (((r.rel1 n).noOw)=r.rel n):=by show _=_;simp [Rk.rel,Rk.rel1,Rk.noOw,hx,ho]
 have H:=hide h
 have M:=hide (Mm.one h.blk)
 have hnI:(n:Int)<8:=by omega
 have P47:=t47 (n:=n) (by omega)
 have c1:=fits_cell h.blk 1 _ rfl
 rw [ho] at c1
 clear ho
 have hxa:decide (r.x=(n:Int))=false:=nef_a hx
 have hxb:(r.x == (n:Int))=false:=nef_b hx
 have hxc:(r.x !=(n:Int))=true:=nef_c hx
 have HWt:=hide hw
 clear hw
 have HU:=hide hu
 clear hu
 have hcd:decide (c<r.op)=true:=by simpa using hc
 have o0:=h.op0
 have o1:r.op≤900000:=by have:=h.op1;omega
 clear h
 go_enter Try.func31,Try.ntmps31
 go_wp2_with (first |(go_at_call 26;refine(unhide (P47 _)).mono ?_;rintro e W11 ⟨rfl,q11⟩;replace q11:=q11.symm;subst q11;refine Stp.go ?_))
 constructor
 go_wp2_with (first |(refine wpSt1 size4 rfl (.tmp 21) (.const (.bool false)) rfl rfl b (2+n) 0 (.bool false) (⟨rfl,rfl⟩) rfl rfl (unhide M) rfl (by show 2+n<40;omega) (Rk.sh_set r ln n hn false) ?_;intro W12 N12;replace M:Hid (Mm [b] w W12 [(b,80,({ r with sh:=upd r.sh n false } :Rk).C ln)]):=hide N12;clear N12;clear c1;refine Stp.go ?_))
 constructor
 go_wp2_with (first |(refine wpSt1 size2 rfl (.tmp 26) (.const (.int .i64 0)) rfl rfl b (18+n) 0 (.int .i64 0) (⟨rfl,rfl⟩) rfl rfl (unhide M) rfl (by show 18+n<40;omega) (Rk.ops_set _ ln n hn 0) ?_;intro W13 N13;replace M:Hid (Mm [b] w W13 [(b,80,(r.rel1 n).C ln)]):=hide N13;clear N13;have c0:W13.cell? ⟨b,0,none⟩=some (.int .i64 r.x):=fits_cell ((unhide M).at 0 _ rfl) 0 _ rfl;refine Stp.go ?_))
 constructor
 go_wp2_with (first |(refine wpSt1 size3 rfl (.tmp 39) (.const (.int .i64 (-1))) rfl rfl b (1) 0 (.int .i64 (-1)) (⟨rfl,rfl⟩) rfl rfl (unhide M) rfl (show 1+1≤_ from Nat.le_of_ble_eq_true rfl) (rfl) ?_;intro W14 N14;replace M:Hid (Mm [b] w W14 [(b,80,(r.rel1 n).noOw.C ln)]):=hide N14;clear N14;clear c0;replace M:Hid (Mm [b] w W14 [(b,80,(r.rel n).C ln)]):=(by have h9:=unhide M;rw [unhide HEr] at h9;exact h9);have c29:W14.cell? ⟨b,29,none⟩=some (.int .i64 2):=(by rw [← unhide HWt];exact fits_cell ((unhide M).at 0 _ rfl) 29 _ rfl);have c38:W14.cell? ⟨b,38,none⟩=some (.int .i64 (n:Int)):=(by rw [← unhide HU];exact fits_cell ((unhide M).at 0 _ rfl) 38 _ rfl);have c39:W14.cell? ⟨b,39,none⟩=some (.int .i64 r.op):=fits_cell ((unhide M).at 0 _ rfl) 39 _ rfl;refine Stp.go ?_))
 constructor
 go_wp2_with (first |(refine wpSt1 size2 rfl (.tmp 83) (.tmp 81) rfl rfl b (39) 0 (.int .i64 (r.op+1)) (⟨rfl,rfl⟩) rfl rfl (unhide M) rfl (show 39+1≤_ from Nat.le_of_ble_eq_true rfl) (rfl) ?_;intro W15 N15;replace M:Hid (Mm [b] w W15 [(b,80,(r.rel n).opUp.C ln)]):=hide N15;clear N15;clear c29 c38 c39;refine Stp.go ?_))
 constructor
 go_wp2_with (first |(go_at_call 64;refine(rbegin64 L (r.rel n).opUp ln b _ ((unhide M).at 0 _ rfl) ((unhide H).row1 (unhide M).kept) (ropUp_ok (rel_ok (unhide H).ok n)) (unhide H).all (by have:=(unhide H).len;omega) (by show 0≤r.op+1;have:=(unhide H).op0;omega) (by show r.op+1+L.length≤1000000;have:=(unhide H).op1;omega)).mono ?_;rintro e W90 ⟨v,ln2,rfl,N9,B9,R9,K9,S9⟩;have HN:=hide (N9.elder (w:=w) (unhide M).kept.size);have HB9:=hide B9;have HR9:=hide R9;have HK9:Hid (Kept (b::spare ln) w W90):=((unhide M).kept.mono (by simp)).trans K9;have HS9:Hid (Grw w ln ln2):=S9.elder (unhide M).kept.size;clear N9 B9 R9 K9 S9;refine Stp.go ?_))
 constructor
 go_wp2_with fail
 go_ret
 exact⟨v,ln2,rfl,unhide HN,unhide HB9,unhide HR9,unhide HK9,unhide HS9⟩
theorem rrel_Co (r:Rk) (ln:Value) (b:Nat) (L:List Wi) (n:Nat) (c:Int) (w:World) (h:Rs w b ln r L) (hn:n<8) (hx:¬r.x=(n:Int)) (ho:  r.ow=(n:Int)) (hw:r.wt=3):Calls Try.prog 31 #[P0 b,.int .i64 n,.int .i64 c] w (RC b ln w (rneed (fun r'=>rdone r' L) (r.rel n))):=by
 have HEr:Hid (((r.rel1 n).noOw)=r.rel n):=by show _=_;simp [Rk.rel,Rk.rel1,Rk.noOw,hx,ho]
 have H:=hide h
 have M:=hide (Mm.one h.blk)
 have hnI:(n:Int)<8:=by omega
 have P47:=t47 (n:=n) (by omega)
 have c1:=fits_cell h.blk 1 _ rfl
 rw [ho] at c1
 clear ho
 have hxa:decide (r.x=(n:Int))=false:=nef_a hx
 have hxb:(r.x == (n:Int))=false:=nef_b hx
 have hxc:(r.x !=(n:Int))=true:=nef_c hx
 have HWt:=hide hw
 clear hw
 clear h
 go_enter Try.func31,Try.ntmps31
 go_wp2_with (first |(go_at_call 26;refine(unhide (P47 _)).mono ?_;rintro e W11 ⟨rfl,q11⟩;replace q11:=q11.symm;subst q11;refine Stp.go ?_))
 constructor
 go_wp2_with (first |(refine wpSt1 size4 rfl (.tmp 21) (.const (.bool false)) rfl rfl b (2+n) 0 (.bool false) (⟨rfl,rfl⟩) rfl rfl (unhide M) rfl (by show 2+n<40;omega) (Rk.sh_set r ln n hn false) ?_;intro W12 N12;replace M:Hid (Mm [b] w W12 [(b,80,({ r with sh:=upd r.sh n false } :Rk).C ln)]):=hide N12;clear N12;clear c1;refine Stp.go ?_))
 constructor
 go_wp2_with (first |(refine wpSt1 size2 rfl (.tmp 26) (.const (.int .i64 0)) rfl rfl b (18+n) 0 (.int .i64 0) (⟨rfl,rfl⟩) rfl rfl (unhide M) rfl (by show 18+n<40;omega) (Rk.ops_set _ ln n hn 0) ?_;intro W13 N13;replace M:Hid (Mm [b] w W13 [(b,80,(r.rel1 n).C ln)]):=hide N13;clear N13;have c0:W13.cell? ⟨b,0,none⟩=some (.int .i64 r.x):=fits_cell ((unhide M).at 0 _ rfl) 0 _ rfl;refine Stp.go ?_))
 constructor
 go_wp2_with (first |(refine wpSt1 size3 rfl (.tmp 39) (.const (.int .i64 (-1))) rfl rfl b (1) 0 (.int .i64 (-1)) (⟨rfl,rfl⟩) rfl rfl (unhide M) rfl (show 1+1≤_ from Nat.le_of_ble_eq_true rfl) (rfl) ?_;intro W14 N14;replace M:Hid (Mm [b] w W14 [(b,80,(r.rel1 n).noOw.C ln)]):=hide N14;clear N14;clear c0;replace M:Hid (Mm [b] w W14 [(b,80,(r.rel n).C ln)]):=(by have h9:=unhide M;rw [unhide HEr] at h9;exact h9);have c29:W14.cell? ⟨b,29,none⟩=some (.int .i64 3):=(by rw [← unhide HWt];exact fits_cell ((unhide M).at 0 _ rfl) 29 _ rfl);refine Stp.go ?_))
 constructor
 go_wp2_with (first |(go_at_call 65;refine(rneed65 L (rdone_ok L (unhide H).all (by have:=(unhide H).len;omega)) (r.rel n) ln b _ ((unhide M).at 0 _ rfl) ((unhide H).row1 (unhide M).kept) (rel_ok (unhide H).ok n) (unhide H).op0 (by show r.op+L.length≤1000000;have:=(unhide H).op1;omega) (by have:=(unhide H).len;omega)).mono ?_;rintro e W90 ⟨v,ln2,rfl,N9,B9,R9,K9,S9⟩;have HN:=hide (N9.elder (w:=w) (unhide M).kept.size);have HB9:=hide B9;have HR9:=hide R9;have HK9:Hid (Kept (b::spare ln) w W90):=((unhide M).kept.mono (by simp)).trans K9;have HS9:Hid (Grw w ln ln2):=S9.elder (unhide M).kept.size;clear N9 B9 R9 K9 S9 c29;refine Stp.go ?_))
 constructor
 go_wp2_with fail
 go_ret
 exact⟨v,ln2,rfl,unhide HN,unhide HB9,unhide HR9,unhide HK9,unhide HS9⟩
theorem rrel_N1o (r:Rk) (ln:Value) (b:Nat) (L:List Wi) (n:Nat) (c:Int) (w:World) (h:Rs w b ln r L) (hn:n<8) (hx:¬r.x=(n:Int)) (ho:  r.ow=(n:Int)) (hw:r.wt=1) (hg:r.gn n=false):Calls Try.prog 31 #[P0 b,.int .i64 n,.int .i64 c] w (RC b ln w ((r.rel n),L,[])):=by
 have HEr:Hid (((r.rel1 n).noOw)=r.rel n):=by show _=_;simp [Rk.rel,Rk.rel1,Rk.noOw,hx,ho]
 have H:=hide h
 have M:=hide (Mm.one h.blk)
 have hnI:(n:Int)<8:=by omega
 have P47:=t47 (n:=n) (by omega)
 have c1:=fits_cell h.blk 1 _ rfl
 rw [ho] at c1
 clear ho
 have hxa:decide (r.x=(n:Int))=false:=nef_a hx
 have hxb:(r.x == (n:Int))=false:=nef_b hx
 have hxc:(r.x !=(n:Int))=true:=nef_c hx
 have HWt:=hide hw
 clear hw
 have HGn:=hide hg
 clear hg
 clear h
 go_enter Try.func31,Try.ntmps31
 go_wp2_with (first |(go_at_call 26;refine(unhide (P47 _)).mono ?_;rintro e W11 ⟨rfl,q11⟩;replace q11:=q11.symm;subst q11;refine Stp.go ?_))
 constructor
 go_wp2_with (first |(refine wpSt1 size4 rfl (.tmp 21) (.const (.bool false)) rfl rfl b (2+n) 0 (.bool false) (⟨rfl,rfl⟩) rfl rfl (unhide M) rfl (by show 2+n<40;omega) (Rk.sh_set r ln n hn false) ?_;intro W12 N12;replace M:Hid (Mm [b] w W12 [(b,80,({ r with sh:=upd r.sh n false } :Rk).C ln)]):=hide N12;clear N12;clear c1;refine Stp.go ?_))
 constructor
 go_wp2_with (first |(refine wpSt1 size2 rfl (.tmp 26) (.const (.int .i64 0)) rfl rfl b (18+n) 0 (.int .i64 0) (⟨rfl,rfl⟩) rfl rfl (unhide M) rfl (by show 18+n<40;omega) (Rk.ops_set _ ln n hn 0) ?_;intro W13 N13;replace M:Hid (Mm [b] w W13 [(b,80,(r.rel1 n).C ln)]):=hide N13;clear N13;have c0:W13.cell? ⟨b,0,none⟩=some (.int .i64 r.x):=fits_cell ((unhide M).at 0 _ rfl) 0 _ rfl;refine Stp.go ?_))
 constructor
 go_wp2_with (first |(refine wpSt1 size3 rfl (.tmp 39) (.const (.int .i64 (-1))) rfl rfl b (1) 0 (.int .i64 (-1)) (⟨rfl,rfl⟩) rfl rfl (unhide M) rfl (show 1+1≤_ from Nat.le_of_ble_eq_true rfl) (rfl) ?_;intro W14 N14;replace M:Hid (Mm [b] w W14 [(b,80,(r.rel1 n).noOw.C ln)]):=hide N14;clear N14;clear c0;replace M:Hid (Mm [b] w W14 [(b,80,(r.rel n).C ln)]):=(by have h9:=unhide M;rw [unhide HEr] at h9;exact h9);have c29:W14.cell? ⟨b,29,none⟩=some (.int .i64 1):=(by rw [← unhide HWt];exact fits_cell ((unhide M).at 0 _ rfl) 29 _ rfl);have cg:W14.cell? ⟨b,30+n,none⟩=some (.bool false):=(by have h9:=Blk.rgn ((unhide M).at 0 _ rfl) hn;rw [show (r.rel n).gn n=_ from unhide HGn] at h9;exact h9);refine Stp.go ?_))
 constructor
 go_wp2_with fail
 go_ret
 exact RR.rc (r:=(r.rel n,[])) ⟨_,rfl,New.nil _ _ _ _,(unhide M).at 0 _ rfl,(unhide M).kept⟩ (unhide H).blk (unhide H).row
theorem rrel_N2o (r:Rk) (ln:Value) (b:Nat) (L:List Wi) (n:Nat) (c:Int) (w:World) (h:Rs w b ln r L) (hn:n<8) (hx:¬r.x=(n:Int)) (ho:  r.ow=(n:Int)) (hw:r.wt=2) (hu:¬r.su=(n:Int)):Calls Try.prog 31 #[P0 b,.int .i64 n,.int .i64 c] w (RC b ln w ((r.rel n),L,[])):=by
 have HEr:Hid (((r.rel1 n).noOw)=r.rel n):=by show _=_;simp [Rk.rel,Rk.rel1,Rk.noOw,hx,ho]
 have H:=hide h
 have M:=hide (Mm.one h.blk)
 have hnI:(n:Int)<8:=by omega
 have P47:=t47 (n:=n) (by omega)
 have c1:=fits_cell h.blk 1 _ rfl
 rw [ho] at c1
 clear ho
 have hxa:decide (r.x=(n:Int))=false:=nef_a hx
 have hxb:(r.x == (n:Int))=false:=nef_b hx
 have hxc:(r.x !=(n:Int))=true:=nef_c hx
 have HWt:=hide hw
 clear hw
 have hua:decide (r.su=(n:Int))=false:=nef_a hu
 have hub:(r.su == (n:Int))=false:=nef_b hu
 have huc:(r.su !=(n:Int))=true:=nef_c hu
 clear h
 go_enter Try.func31,Try.ntmps31
 go_wp2_with (first |(go_at_call 26;refine(unhide (P47 _)).mono ?_;rintro e W11 ⟨rfl,q11⟩;replace q11:=q11.symm;subst q11;refine Stp.go ?_))
 constructor
 go_wp2_with (first |(refine wpSt1 size4 rfl (.tmp 21) (.const (.bool false)) rfl rfl b (2+n) 0 (.bool false) (⟨rfl,rfl⟩) rfl rfl (unhide M) rfl (by show 2+n<40;omega) (Rk.sh_set r ln n hn false) ?_;intro W12 N12;replace M:Hid (Mm [b] w W12 [(b,80,({ r with sh:=upd r.sh n false } :Rk).C ln)]):=hide N12;clear N12;clear c1;refine Stp.go ?_))
 constructor
 go_wp2_with (first |(refine wpSt1 size2 rfl (.tmp 26) (.const (.int .i64 0)) rfl rfl b (18+n) 0 (.int .i64 0) (⟨rfl,rfl⟩) rfl rfl (unhide M) rfl (by show 18+n<40;omega) (Rk.ops_set _ ln n hn 0) ?_;intro W13 N13;replace M:Hid (Mm [b] w W13 [(b,80,(r.rel1 n).C ln)]):=hide N13;clear N13;have c0:W13.cell? ⟨b,0,none⟩=some (.int .i64 r.x):=fits_cell ((unhide M).at 0 _ rfl) 0 _ rfl;refine Stp.go ?_))
 constructor
 go_wp2_with (first |(refine wpSt1 size3 rfl (.tmp 39) (.const (.int .i64 (-1))) rfl rfl b (1) 0 (.int .i64 (-1)) (⟨rfl,rfl⟩) rfl rfl (unhide M) rfl (show 1+1≤_ from Nat.le_of_ble_eq_true rfl) (rfl) ?_;intro W14 N14;replace M:Hid (Mm [b] w W14 [(b,80,(r.rel1 n).noOw.C ln)]):=hide N14;clear N14;clear c0;replace M:Hid (Mm [b] w W14 [(b,80,(r.rel n).C ln)]):=(by have h9:=unhide M;rw [unhide HEr] at h9;exact h9);have c29:W14.cell? ⟨b,29,none⟩=some (.int .i64 2):=(by rw [← unhide HWt];exact fits_cell ((unhide M).at 0 _ rfl) 29 _ rfl);have c38:W14.cell? ⟨b,38,none⟩=some (.int .i64 r.su):=fits_cell ((unhide M).at 0 _ rfl) 38 _ rfl;refine Stp.go ?_))
 constructor
 go_wp2_with fail
 go_ret
 exact RR.rc (r:=(r.rel n,[])) ⟨_,rfl,New.nil _ _ _ _,(unhide M).at 0 _ rfl,(unhide M).kept⟩ (unhide H).blk (unhide H).row
theorem rrel_N3o (r:Rk) (ln:Value) (b:Nat) (L:List Wi) (n:Nat) (c:Int) (w:World) (h:Rs w b ln r L) (hn:n<8) (hx:¬r.x=(n:Int)) (ho:  r.ow=(n:Int)) (hw:r.wt=2) (hu:r.su=(n:Int)) (hc:¬c<r.op):Calls Try.prog 31 #[P0 b,.int .i64 n,.int .i64 c] w (RC b ln w ((r.rel n),L,[])):=by
 have HEr:Hid (((r.rel1 n).noOw)=r.rel n):=by show _=_;simp [Rk.rel,Rk.rel1,Rk.noOw,hx,ho]
 have H:=hide h
 have M:=hide (Mm.one h.blk)
 have hnI:(n:Int)<8:=by omega
 have P47:=t47 (n:=n) (by omega)
 have c1:=fits_cell h.blk 1 _ rfl
 rw [ho] at c1
 clear ho
 have hxa:decide (r.x=(n:Int))=false:=nef_a hx
 have hxb:(r.x == (n:Int))=false:=nef_b hx
 have hxc:(r.x !=(n:Int))=true:=nef_c hx
 have HWt:=hide hw
 clear hw
 have HU:=hide hu
 clear hu
 have hcd:decide (c<r.op)=false:=by simpa using hc
 clear h
 go_enter Try.func31,Try.ntmps31
 go_wp2_with (first |(go_at_call 26;refine(unhide (P47 _)).mono ?_;rintro e W11 ⟨rfl,q11⟩;replace q11:=q11.symm;subst q11;refine Stp.go ?_))
 constructor
 go_wp2_with (first |(refine wpSt1 size4 rfl (.tmp 21) (.const (.bool false)) rfl rfl b (2+n) 0 (.bool false) (⟨rfl,rfl⟩) rfl rfl (unhide M) rfl (by show 2+n<40;omega) (Rk.sh_set r ln n hn false) ?_;intro W12 N12;replace M:Hid (Mm [b] w W12 [(b,80,({ r with sh:=upd r.sh n false } :Rk).C ln)]):=hide N12;clear N12;clear c1;refine Stp.go ?_))
 constructor
 go_wp2_with (first |(refine wpSt1 size2 rfl (.tmp 26) (.const (.int .i64 0)) rfl rfl b (18+n) 0 (.int .i64 0) (⟨rfl,rfl⟩) rfl rfl (unhide M) rfl (by show 18+n<40;omega) (Rk.ops_set _ ln n hn 0) ?_;intro W13 N13;replace M:Hid (Mm [b] w W13 [(b,80,(r.rel1 n).C ln)]):=hide N13;clear N13;have c0:W13.cell? ⟨b,0,none⟩=some (.int .i64 r.x):=fits_cell ((unhide M).at 0 _ rfl) 0 _ rfl;refine Stp.go ?_))
 constructor
 go_wp2_with (first |(refine wpSt1 size3 rfl (.tmp 39) (.const (.int .i64 (-1))) rfl rfl b (1) 0 (.int .i64 (-1)) (⟨rfl,rfl⟩) rfl rfl (unhide M) rfl (show 1+1≤_ from Nat.le_of_ble_eq_true rfl) (rfl) ?_;intro W14 N14;replace M:Hid (Mm [b] w W14 [(b,80,(r.rel1 n).noOw.C ln)]):=hide N14;clear N14;clear c0;replace M:Hid (Mm [b] w W14 [(b,80,(r.rel n).C ln)]):=(by have h9:=unhide M;rw [unhide HEr] at h9;exact h9);have c29:W14.cell? ⟨b,29,none⟩=some (.int .i64 2):=(by rw [← unhide HWt];exact fits_cell ((unhide M).at 0 _ rfl) 29 _ rfl);have c38:W14.cell? ⟨b,38,none⟩=some (.int .i64 (n:Int)):=(by rw [← unhide HU];exact fits_cell ((unhide M).at 0 _ rfl) 38 _ rfl);have c39:W14.cell? ⟨b,39,none⟩=some (.int .i64 r.op):=fits_cell ((unhide M).at 0 _ rfl) 39 _ rfl;refine Stp.go ?_))
 constructor
 go_wp2_with fail
 go_ret
 exact RR.rc (r:=(r.rel n,[])) ⟨_,rfl,New.nil _ _ _ _,(unhide M).at 0 _ rfl,(unhide M).kept⟩ (unhide H).blk (unhide H).row
theorem rrel_N5o (r:Rk) (ln:Value) (b:Nat) (L:List Wi) (n:Nat) (c:Int) (w:World) (h:Rs w b ln r L) (hn:n<8) (hx:¬r.x=(n:Int)) (ho:  r.ow=(n:Int)) (w1:¬r.wt=1) (w2:¬r.wt=2) (w3:¬r.wt=3):Calls Try.prog 31 #[P0 b,.int .i64 n,.int .i64 c] w (RC b ln w ((r.rel n),L,[])):=by
 have HEr:Hid (((r.rel1 n).noOw)=r.rel n):=by show _=_;simp [Rk.rel,Rk.rel1,Rk.noOw,hx,ho]
 have H:=hide h
 have M:=hide (Mm.one h.blk)
 have hnI:(n:Int)<8:=by omega
 have P47:=t47 (n:=n) (by omega)
 have c1:=fits_cell h.blk 1 _ rfl
 rw [ho] at c1
 clear ho
 have hxa:decide (r.x=(n:Int))=false:=nef_a hx
 have hxb:(r.x == (n:Int))=false:=nef_b hx
 have hxc:(r.x !=(n:Int))=true:=nef_c hx
 have w1a:decide (r.wt=1)=false:=nef_a w1
 have w1b:(r.wt == 1)=false:=nef_b w1
 have w1c:(r.wt !=1)=true:=nef_c w1
 have w2a:decide (r.wt=2)=false:=nef_a w2
 have w2b:(r.wt == 2)=false:=nef_b w2
 have w2c:(r.wt !=2)=true:=nef_c w2
 have w3a:decide (r.wt=3)=false:=nef_a w3
 have w3b:(r.wt == 3)=false:=nef_b w3
 have w3c:(r.wt !=3)=true:=nef_c w3
 clear h
 go_enter Try.func31,Try.ntmps31
 go_wp2_with (first |(go_at_call 26;refine(unhide (P47 _)).mono ?_;rintro e W11 ⟨rfl,q11⟩;replace q11:=q11.symm;subst q11;refine Stp.go ?_))
 constructor
 go_wp2_with (first |(refine wpSt1 size4 rfl (.tmp 21) (.const (.bool false)) rfl rfl b (2+n) 0 (.bool false) (⟨rfl,rfl⟩) rfl rfl (unhide M) rfl (by show 2+n<40;omega) (Rk.sh_set r ln n hn false) ?_;intro W12 N12;replace M:Hid (Mm [b] w W12 [(b,80,({ r with sh:=upd r.sh n false } :Rk).C ln)]):=hide N12;clear N12;clear c1;refine Stp.go ?_))
 constructor
 go_wp2_with (first |(refine wpSt1 size2 rfl (.tmp 26) (.const (.int .i64 0)) rfl rfl b (18+n) 0 (.int .i64 0) (⟨rfl,rfl⟩) rfl rfl (unhide M) rfl (by show 18+n<40;omega) (Rk.ops_set _ ln n hn 0) ?_;intro W13 N13;replace M:Hid (Mm [b] w W13 [(b,80,(r.rel1 n).C ln)]):=hide N13;clear N13;have c0:W13.cell? ⟨b,0,none⟩=some (.int .i64 r.x):=fits_cell ((unhide M).at 0 _ rfl) 0 _ rfl;refine Stp.go ?_))
 constructor
 go_wp2_with (first |(refine wpSt1 size3 rfl (.tmp 39) (.const (.int .i64 (-1))) rfl rfl b (1) 0 (.int .i64 (-1)) (⟨rfl,rfl⟩) rfl rfl (unhide M) rfl (show 1+1≤_ from Nat.le_of_ble_eq_true rfl) (rfl) ?_;intro W14 N14;replace M:Hid (Mm [b] w W14 [(b,80,(r.rel1 n).noOw.C ln)]):=hide N14;clear N14;clear c0;replace M:Hid (Mm [b] w W14 [(b,80,(r.rel n).C ln)]):=(by have h9:=unhide M;rw [unhide HEr] at h9;exact h9);have c29:W14.cell? ⟨b,29,none⟩=some (.int .i64 r.wt):=fits_cell ((unhide M).at 0 _ rfl) 29 _ rfl;refine Stp.go ?_))
 constructor
 go_wp2_with fail
 go_ret
 exact RR.rc (r:=(r.rel n,[])) ⟨_,rfl,New.nil _ _ _ _,(unhide M).at 0 _ rfl,(unhide M).kept⟩ (unhide H).blk (unhide H).row
theorem rrel_Ax (r:Rk) (ln:Value) (b:Nat) (L:List Wi) (n:Nat) (c:Int) (w:World) (h:Rs w b ln r L) (hn:n<8) (hx:  r.x=(n:Int)) (ho:¬r.ow=(n:Int)) (hw:r.wt=1) (hg:r.gn n=true):Calls Try.prog 31 #[P0 b,.int .i64 n,.int .i64 c] w (RC b ln w (raway (r.rel n) L n)):=by
 have HEr:Hid (((r.rel1 n).noX)=r.rel n):=by show _=_;simp [Rk.rel,Rk.rel1,Rk.noX,hx,ho]
 have H:=hide h
 have M:=hide (Mm.one h.blk)
 have hnI:(n:Int)<8:=by omega
 have P47:=t47 (n:=n) (by omega)
 have c1:=fits_cell h.blk 1 _ rfl
 have hoa:decide (r.ow=(n:Int))=false:=nef_a ho
 have hob:(r.ow == (n:Int))=false:=nef_b ho
 have hoc:(r.ow !=(n:Int))=true:=nef_c ho
 have HX:=hide hx
 clear hx
 have HWt:=hide hw
 clear hw
 have HGn:=hide hg
 clear hg
 clear h
 go_enter Try.func31,Try.ntmps31
 go_wp2_with (first |(go_at_call 26;refine(unhide (P47 _)).mono ?_;rintro e W11 ⟨rfl,q11⟩;replace q11:=q11.symm;subst q11;refine Stp.go ?_))
 constructor
 go_wp2_with (first |(refine wpSt1 size4 rfl (.tmp 21) (.const (.bool false)) rfl rfl b (2+n) 0 (.bool false) (⟨rfl,rfl⟩) rfl rfl (unhide M) rfl (by show 2+n<40;omega) (Rk.sh_set r ln n hn false) ?_;intro W12 N12;replace M:Hid (Mm [b] w W12 [(b,80,({ r with sh:=upd r.sh n false } :Rk).C ln)]):=hide N12;clear N12;clear c1;refine Stp.go ?_))
 constructor
 go_wp2_with (first |(refine wpSt1 size2 rfl (.tmp 26) (.const (.int .i64 0)) rfl rfl b (18+n) 0 (.int .i64 0) (⟨rfl,rfl⟩) rfl rfl (unhide M) rfl (by show 18+n<40;omega) (Rk.ops_set _ ln n hn 0) ?_;intro W13 N13;replace M:Hid (Mm [b] w W13 [(b,80,(r.rel1 n).C ln)]):=hide N13;clear N13;have c0:W13.cell? ⟨b,0,none⟩=some (.int .i64 (n:Int)):=(by rw [← unhide HX];exact fits_cell ((unhide M).at 0 _ rfl) 0 _ rfl);refine Stp.go ?_))
 constructor
 go_wp2_with (first |(refine wpSt1 size3 rfl (.tmp 35) (.const (.int .i64 (-1))) rfl rfl b (0) 0 (.int .i64 (-1)) (⟨rfl,rfl⟩) rfl rfl (unhide M) rfl (show 0+1≤_ from Nat.le_of_ble_eq_true rfl) (rfl) ?_;intro W14 N14;replace M:Hid (Mm [b] w W14 [(b,80,(r.rel1 n).noX.C ln)]):=hide N14;clear N14;clear c0;replace M:Hid (Mm [b] w W14 [(b,80,(r.rel n).C ln)]):=(by have h9:=unhide M;rw [unhide HEr] at h9;exact h9);have c29:W14.cell? ⟨b,29,none⟩=some (.int .i64 1):=(by rw [← unhide HWt];exact fits_cell ((unhide M).at 0 _ rfl) 29 _ rfl);have cg:W14.cell? ⟨b,30+n,none⟩=some (.bool true):=(by have h9:=Blk.rgn ((unhide M).at 0 _ rfl) hn;rw [show (r.rel n).gn n=_ from unhide HGn] at h9;exact h9);refine Stp.go ?_))
 constructor
 go_wp2_with (first |(go_at_call 63;refine(raway63 (r.rel n) ln b L n _ ⟨(unhide M).at 0 _ rfl,((unhide H).row1 (unhide M).kept),rel_ok (unhide H).ok n,(unhide H).all,(unhide H).op0,(unhide H).op1,(unhide H).len⟩ hn).mono ?_;rintro e W90 ⟨v,ln2,rfl,N9,B9,R9,K9,S9⟩;have HN:=hide (N9.elder (w:=w) (unhide M).kept.size);have HB9:=hide B9;have HR9:=hide R9;have HK9:Hid (Kept (b::spare ln) w W90):=((unhide M).kept.mono (by simp)).trans K9;have HS9:Hid (Grw w ln ln2):=S9.elder (unhide M).kept.size;clear N9 B9 R9 K9 S9 c29 cg;refine Stp.go ?_))
 constructor
 go_wp2_with fail
 go_ret
 exact⟨v,ln2,rfl,unhide HN,unhide HB9,unhide HR9,unhide HK9,unhide HS9⟩
theorem rrel_Bx (r:Rk) (ln:Value) (b:Nat) (L:List Wi) (n:Nat) (c:Int) (w:World) (h:Rs w b ln r L) (hn:n<8) (hx:  r.x=(n:Int)) (ho:¬r.ow=(n:Int)) (hw:r.wt=2) (hu:r.su=(n:Int)) (hc:c<r.op):Calls Try.prog 31 #[P0 b,.int .i64 n,.int .i64 c] w (RC b ln w (rbegP (r.rel n).opUp L)):=by
 have HEr:Hid (((r.rel1 n).noX)=r.rel n):=by show _=_;simp [Rk.rel,Rk.rel1,Rk.noX,hx,ho]
 have H:=hide h
 have M:=hide (Mm.one h.blk)
 have hnI:(n:Int)<8:=by omega
 have P47:=t47 (n:=n) (by omega)
 have c1:=fits_cell h.blk 1 _ rfl
 have hoa:decide (r.ow=(n:Int))=false:=nef_a ho
 have hob:(r.ow == (n:Int))=false:=nef_b ho
 have hoc:(r.ow !=(n:Int))=true:=nef_c ho
 have HX:=hide hx
 clear hx
 have HWt:=hide hw
 clear hw
 have HU:=hide hu
 clear hu
 have hcd:decide (c<r.op)=true:=by simpa using hc
 have o0:=h.op0
 have o1:r.op≤900000:=by have:=h.op1;omega
 clear h
 go_enter Try.func31,Try.ntmps31
 go_wp2_with (first |(go_at_call 26;refine(unhide (P47 _)).mono ?_;rintro e W11 ⟨rfl,q11⟩;replace q11:=q11.symm;subst q11;refine Stp.go ?_))
 constructor
 go_wp2_with (first |(refine wpSt1 size4 rfl (.tmp 21) (.const (.bool false)) rfl rfl b (2+n) 0 (.bool false) (⟨rfl,rfl⟩) rfl rfl (unhide M) rfl (by show 2+n<40;omega) (Rk.sh_set r ln n hn false) ?_;intro W12 N12;replace M:Hid (Mm [b] w W12 [(b,80,({ r with sh:=upd r.sh n false } :Rk).C ln)]):=hide N12;clear N12;clear c1;refine Stp.go ?_))
 constructor
 go_wp2_with (first |(refine wpSt1 size2 rfl (.tmp 26) (.const (.int .i64 0)) rfl rfl b (18+n) 0 (.int .i64 0) (⟨rfl,rfl⟩) rfl rfl (unhide M) rfl (by show 18+n<40;omega) (Rk.ops_set _ ln n hn 0) ?_;intro W13 N13;replace M:Hid (Mm [b] w W13 [(b,80,(r.rel1 n).C ln)]):=hide N13;clear N13;have c0:W13.cell? ⟨b,0,none⟩=some (.int .i64 (n:Int)):=(by rw [← unhide HX];exact fits_cell ((unhide M).at 0 _ rfl) 0 _ rfl);refine Stp.go ?_))
 constructor
 go_wp2_with (first |(refine wpSt1 size3 rfl (.tmp 35) (.const (.int .i64 (-1))) rfl rfl b (0) 0 (.int .i64 (-1)) (⟨rfl,rfl⟩) rfl rfl (unhide M) rfl (show 0+1≤_ from Nat.le_of_ble_eq_true rfl) (rfl) ?_;intro W14 N14;replace M:Hid (Mm [b] w W14 [(b,80,(r.rel1 n).noX.C ln)]):=hide N14;clear N14;clear c0;replace M:Hid (Mm [b] w W14 [(b,80,(r.rel n).C ln)]):=(by have h9:=unhide M;rw [unhide HEr] at h9;exact h9);have c29:W14.cell? ⟨b,29,none⟩=some (.int .i64 2):=(by rw [← unhide HWt];exact fits_cell ((unhide M).at 0 _ rfl) 29 _ rfl);have c38:W14.cell? ⟨b,38,none⟩=some (.int .i64 (n:Int)):=(by rw [← unhide HU];exact fits_cell ((unhide M).at 0 _ rfl) 38 _ rfl);have c39:W14.cell? ⟨b,39,none⟩=some (.int .i64 r.op):=fits_cell ((unhide M).at 0 _ rfl) 39 _ rfl;refine Stp.go ?_))
 constructor
 go_wp2_with (first |(refine wpSt1 size2 rfl (.tmp 83) (.tmp 81) rfl rfl b (39) 0 (.int .i64 (r.op+1)) (⟨rfl,rfl⟩) rfl rfl (unhide M) rfl (show 39+1≤_ from Nat.le_of_ble_eq_true rfl) (rfl) ?_;intro W15 N15;replace M:Hid (Mm [b] w W15 [(b,80,(r.rel n).opUp.C ln)]):=hide N15;clear N15;clear c29 c38 c39;refine Stp.go ?_))
 constructor
 go_wp2_with (first |(go_at_call 64;refine(rbegin64 L (r.rel n).opUp ln b _ ((unhide M).at 0 _ rfl) ((unhide H).row1 (unhide M).kept) (ropUp_ok (rel_ok (unhide H).ok n)) (unhide H).all (by have:=(unhide H).len;omega) (by show 0≤r.op+1;have:=(unhide H).op0;omega) (by show r.op+1+L.length≤1000000;have:=(unhide H).op1;omega)).mono ?_;rintro e W90 ⟨v,ln2,rfl,N9,B9,R9,K9,S9⟩;have HN:=hide (N9.elder (w:=w) (unhide M).kept.size);have HB9:=hide B9;have HR9:=hide R9;have HK9:Hid (Kept (b::spare ln) w W90):=((unhide M).kept.mono (by simp)).trans K9;have HS9:Hid (Grw w ln ln2):=S9.elder (unhide M).kept.size;clear N9 B9 R9 K9 S9;refine Stp.go ?_))
 constructor
 go_wp2_with fail
 go_ret
 exact⟨v,ln2,rfl,unhide HN,unhide HB9,unhide HR9,unhide HK9,unhide HS9⟩
theorem rrel_N1x (r:Rk) (ln:Value) (b:Nat) (L:List Wi) (n:Nat) (c:Int) (w:World) (h:Rs w b ln r L) (hn:n<8) (hx:  r.x=(n:Int)) (ho:¬r.ow=(n:Int)) (hw:r.wt=1) (hg:r.gn n=false):Calls Try.prog 31 #[P0 b,.int .i64 n,.int .i64 c] w (RC b ln w ((r.rel n),L,[])):=by
 have HEr:Hid (((r.rel1 n).noX)=r.rel n):=by show _=_;simp [Rk.rel,Rk.rel1,Rk.noX,hx,ho]
 have H:=hide h
 have M:=hide (Mm.one h.blk)
 have hnI:(n:Int)<8:=by omega
 have P47:=t47 (n:=n) (by omega)
 have c1:=fits_cell h.blk 1 _ rfl
 have hoa:decide (r.ow=(n:Int))=false:=nef_a ho
 have hob:(r.ow == (n:Int))=false:=nef_b ho
 have hoc:(r.ow !=(n:Int))=true:=nef_c ho
 have HX:=hide hx
 clear hx
 have HWt:=hide hw
 clear hw
 have HGn:=hide hg
 clear hg
 clear h
 go_enter Try.func31,Try.ntmps31
 go_wp2_with (first |(go_at_call 26;refine(unhide (P47 _)).mono ?_;rintro e W11 ⟨rfl,q11⟩;replace q11:=q11.symm;subst q11;refine Stp.go ?_))
 constructor
 go_wp2_with (first |(refine wpSt1 size4 rfl (.tmp 21) (.const (.bool false)) rfl rfl b (2+n) 0 (.bool false) (⟨rfl,rfl⟩) rfl rfl (unhide M) rfl (by show 2+n<40;omega) (Rk.sh_set r ln n hn false) ?_;intro W12 N12;replace M:Hid (Mm [b] w W12 [(b,80,({ r with sh:=upd r.sh n false } :Rk).C ln)]):=hide N12;clear N12;clear c1;refine Stp.go ?_))
 constructor
 go_wp2_with (first |(refine wpSt1 size2 rfl (.tmp 26) (.const (.int .i64 0)) rfl rfl b (18+n) 0 (.int .i64 0) (⟨rfl,rfl⟩) rfl rfl (unhide M) rfl (by show 18+n<40;omega) (Rk.ops_set _ ln n hn 0) ?_;intro W13 N13;replace M:Hid (Mm [b] w W13 [(b,80,(r.rel1 n).C ln)]):=hide N13;clear N13;have c0:W13.cell? ⟨b,0,none⟩=some (.int .i64 (n:Int)):=(by rw [← unhide HX];exact fits_cell ((unhide M).at 0 _ rfl) 0 _ rfl);refine Stp.go ?_))
 constructor
 go_wp2_with (first |(refine wpSt1 size3 rfl (.tmp 35) (.const (.int .i64 (-1))) rfl rfl b (0) 0 (.int .i64 (-1)) (⟨rfl,rfl⟩) rfl rfl (unhide M) rfl (show 0+1≤_ from Nat.le_of_ble_eq_true rfl) (rfl) ?_;intro W14 N14;replace M:Hid (Mm [b] w W14 [(b,80,(r.rel1 n).noX.C ln)]):=hide N14;clear N14;clear c0;replace M:Hid (Mm [b] w W14 [(b,80,(r.rel n).C ln)]):=(by have h9:=unhide M;rw [unhide HEr] at h9;exact h9);have c29:W14.cell? ⟨b,29,none⟩=some (.int .i64 1):=(by rw [← unhide HWt];exact fits_cell ((unhide M).at 0 _ rfl) 29 _ rfl);have cg:W14.cell? ⟨b,30+n,none⟩=some (.bool false):=(by have h9:=Blk.rgn ((unhide M).at 0 _ rfl) hn;rw [show (r.rel n).gn n=_ from unhide HGn] at h9;exact h9);refine Stp.go ?_))
 constructor
 go_wp2_with fail
 go_ret
 exact RR.rc (r:=(r.rel n,[])) ⟨_,rfl,New.nil _ _ _ _,(unhide M).at 0 _ rfl,(unhide M).kept⟩ (unhide H).blk (unhide H).row
theorem rrel_N2x (r:Rk) (ln:Value) (b:Nat) (L:List Wi) (n:Nat) (c:Int) (w:World) (h:Rs w b ln r L) (hn:n<8) (hx:  r.x=(n:Int)) (ho:¬r.ow=(n:Int)) (hw:r.wt=2) (hu:¬r.su=(n:Int)):Calls Try.prog 31 #[P0 b,.int .i64 n,.int .i64 c] w (RC b ln w ((r.rel n),L,[])):=by
 have HEr:Hid (((r.rel1 n).noX)=r.rel n):=by show _=_;simp [Rk.rel,Rk.rel1,Rk.noX,hx,ho]
 have H:=hide h
 have M:=hide (Mm.one h.blk)
 have hnI:(n:Int)<8:=by omega
 have P47:=t47 (n:=n) (by omega)
 have c1:=fits_cell h.blk 1 _ rfl
 have hoa:decide (r.ow=(n:Int))=false:=nef_a ho
 have hob:(r.ow == (n:Int))=false:=nef_b ho
 have hoc:(r.ow !=(n:Int))=true:=nef_c ho
 have HX:=hide hx
 clear hx
 have HWt:=hide hw
 clear hw
 have hua:decide (r.su=(n:Int))=false:=nef_a hu
 have hub:(r.su == (n:Int))=false:=nef_b hu
 have huc:(r.su !=(n:Int))=true:=nef_c hu
 clear h
 go_enter Try.func31,Try.ntmps31
 go_wp2_with (first |(go_at_call 26;refine(unhide (P47 _)).mono ?_;rintro e W11 ⟨rfl,q11⟩;replace q11:=q11.symm;subst q11;refine Stp.go ?_))
 constructor
 go_wp2_with (first |(refine wpSt1 size4 rfl (.tmp 21) (.const (.bool false)) rfl rfl b (2+n) 0 (.bool false) (⟨rfl,rfl⟩) rfl rfl (unhide M) rfl (by show 2+n<40;omega) (Rk.sh_set r ln n hn false) ?_;intro W12 N12;replace M:Hid (Mm [b] w W12 [(b,80,({ r with sh:=upd r.sh n false } :Rk).C ln)]):=hide N12;clear N12;clear c1;refine Stp.go ?_))
 constructor
 go_wp2_with (first |(refine wpSt1 size2 rfl (.tmp 26) (.const (.int .i64 0)) rfl rfl b (18+n) 0 (.int .i64 0) (⟨rfl,rfl⟩) rfl rfl (unhide M) rfl (by show 18+n<40;omega) (Rk.ops_set _ ln n hn 0) ?_;intro W13 N13;replace M:Hid (Mm [b] w W13 [(b,80,(r.rel1 n).C ln)]):=hide N13;clear N13;have c0:W13.cell? ⟨b,0,none⟩=some (.int .i64 (n:Int)):=(by rw [← unhide HX];exact fits_cell ((unhide M).at 0 _ rfl) 0 _ rfl);refine Stp.go ?_))
 constructor
 go_wp2_with (first |(refine wpSt1 size3 rfl (.tmp 35) (.const (.int .i64 (-1))) rfl rfl b (0) 0 (.int .i64 (-1)) (⟨rfl,rfl⟩) rfl rfl (unhide M) rfl (show 0+1≤_ from Nat.le_of_ble_eq_true rfl) (rfl) ?_;intro W14 N14;replace M:Hid (Mm [b] w W14 [(b,80,(r.rel1 n).noX.C ln)]):=hide N14;clear N14;clear c0;replace M:Hid (Mm [b] w W14 [(b,80,(r.rel n).C ln)]):=(by have h9:=unhide M;rw [unhide HEr] at h9;exact h9);have c29:W14.cell? ⟨b,29,none⟩=some (.int .i64 2):=(by rw [← unhide HWt];exact fits_cell ((unhide M).at 0 _ rfl) 29 _ rfl);have c38:W14.cell? ⟨b,38,none⟩=some (.int .i64 r.su):=fits_cell ((unhide M).at 0 _ rfl) 38 _ rfl;refine Stp.go ?_))
 constructor
 go_wp2_with fail
 go_ret
 exact RR.rc (r:=(r.rel n,[])) ⟨_,rfl,New.nil _ _ _ _,(unhide M).at 0 _ rfl,(unhide M).kept⟩ (unhide H).blk (unhide H).row
theorem rrel_N3x (r:Rk) (ln:Value) (b:Nat) (L:List Wi) (n:Nat) (c:Int) (w:World) (h:Rs w b ln r L) (hn:n<8) (hx:  r.x=(n:Int)) (ho:¬r.ow=(n:Int)) (hw:r.wt=2) (hu:r.su=(n:Int)) (hc:¬c<r.op):Calls Try.prog 31 #[P0 b,.int .i64 n,.int .i64 c] w (RC b ln w ((r.rel n),L,[])):=by
 have HEr:Hid (((r.rel1 n).noX)=r.rel n):=by show _=_;simp [Rk.rel,Rk.rel1,Rk.noX,hx,ho]
 have H:=hide h
 have M:=hide (Mm.one h.blk)
 have hnI:(n:Int)<8:=by omega
 have P47:=t47 (n:=n) (by omega)
 have c1:=fits_cell h.blk 1 _ rfl
 have hoa:decide (r.ow=(n:Int))=false:=nef_a ho
 have hob:(r.ow == (n:Int))=false:=nef_b ho
 have hoc:(r.ow !=(n:Int))=true:=nef_c ho
 have HX:=hide hx
 clear hx
 have HWt:=hide hw
 clear hw
 have HU:=hide hu
 clear hu
 have hcd:decide (c<r.op)=false:=by simpa using hc
 clear h
 go_enter Try.func31,Try.ntmps31
 go_wp2_with (first |(go_at_call 26;refine(unhide (P47 _)).mono ?_;rintro e W11 ⟨rfl,q11⟩;replace q11:=q11.symm;subst q11;refine Stp.go ?_))
 constructor
 go_wp2_with (first |(refine wpSt1 size4 rfl (.tmp 21) (.const (.bool false)) rfl rfl b (2+n) 0 (.bool false) (⟨rfl,rfl⟩) rfl rfl (unhide M) rfl (by show 2+n<40;omega) (Rk.sh_set r ln n hn false) ?_;intro W12 N12;replace M:Hid (Mm [b] w W12 [(b,80,({ r with sh:=upd r.sh n false } :Rk).C ln)]):=hide N12;clear N12;clear c1;refine Stp.go ?_))
 constructor
 go_wp2_with (first |(refine wpSt1 size2 rfl (.tmp 26) (.const (.int .i64 0)) rfl rfl b (18+n) 0 (.int .i64 0) (⟨rfl,rfl⟩) rfl rfl (unhide M) rfl (by show 18+n<40;omega) (Rk.ops_set _ ln n hn 0) ?_;intro W13 N13;replace M:Hid (Mm [b] w W13 [(b,80,(r.rel1 n).C ln)]):=hide N13;clear N13;have c0:W13.cell? ⟨b,0,none⟩=some (.int .i64 (n:Int)):=(by rw [← unhide HX];exact fits_cell ((unhide M).at 0 _ rfl) 0 _ rfl);refine Stp.go ?_))
 constructor
 go_wp2_with (first |(refine wpSt1 size3 rfl (.tmp 35) (.const (.int .i64 (-1))) rfl rfl b (0) 0 (.int .i64 (-1)) (⟨rfl,rfl⟩) rfl rfl (unhide M) rfl (show 0+1≤_ from Nat.le_of_ble_eq_true rfl) (rfl) ?_;intro W14 N14;replace M:Hid (Mm [b] w W14 [(b,80,(r.rel1 n).noX.C ln)]):=hide N14;clear N14;clear c0;replace M:Hid (Mm [b] w W14 [(b,80,(r.rel n).C ln)]):=(by have h9:=unhide M;rw [unhide HEr] at h9;exact h9);have c29:W14.cell? ⟨b,29,none⟩=some (.int .i64 2):=(by rw [← unhide HWt];exact fits_cell ((unhide M).at 0 _ rfl) 29 _ rfl);have c38:W14.cell? ⟨b,38,none⟩=some (.int .i64 (n:Int)):=(by rw [← unhide HU];exact fits_cell ((unhide M).at 0 _ rfl) 38 _ rfl);have c39:W14.cell? ⟨b,39,none⟩=some (.int .i64 r.op):=fits_cell ((unhide M).at 0 _ rfl) 39 _ rfl;refine Stp.go ?_))
 constructor
 go_wp2_with fail
 go_ret
 exact RR.rc (r:=(r.rel n,[])) ⟨_,rfl,New.nil _ _ _ _,(unhide M).at 0 _ rfl,(unhide M).kept⟩ (unhide H).blk (unhide H).row
theorem rrel_N4x (r:Rk) (ln:Value) (b:Nat) (L:List Wi) (n:Nat) (c:Int) (w:World) (h:Rs w b ln r L) (hn:n<8) (hx:  r.x=(n:Int)) (ho:¬r.ow=(n:Int)) (hw:r.wt=3):Calls Try.prog 31 #[P0 b,.int .i64 n,.int .i64 c] w (RC b ln w ((r.rel n),L,[])):=by
 have HEr:Hid (((r.rel1 n).noX)=r.rel n):=by show _=_;simp [Rk.rel,Rk.rel1,Rk.noX,hx,ho]
 have H:=hide h
 have M:=hide (Mm.one h.blk)
 have hnI:(n:Int)<8:=by omega
 have P47:=t47 (n:=n) (by omega)
 have c1:=fits_cell h.blk 1 _ rfl
 have hoa:decide (r.ow=(n:Int))=false:=nef_a ho
 have hob:(r.ow == (n:Int))=false:=nef_b ho
 have hoc:(r.ow !=(n:Int))=true:=nef_c ho
 have HX:=hide hx
 clear hx
 have HWt:=hide hw
 clear hw
 clear h
 go_enter Try.func31,Try.ntmps31
 go_wp2_with (first |(go_at_call 26;refine(unhide (P47 _)).mono ?_;rintro e W11 ⟨rfl,q11⟩;replace q11:=q11.symm;subst q11;refine Stp.go ?_))
 constructor
 go_wp2_with (first |(refine wpSt1 size4 rfl (.tmp 21) (.const (.bool false)) rfl rfl b (2+n) 0 (.bool false) (⟨rfl,rfl⟩) rfl rfl (unhide M) rfl (by show 2+n<40;omega) (Rk.sh_set r ln n hn false) ?_;intro W12 N12;replace M:Hid (Mm [b] w W12 [(b,80,({ r with sh:=upd r.sh n false } :Rk).C ln)]):=hide N12;clear N12;clear c1;refine Stp.go ?_))
 constructor
 go_wp2_with (first |(refine wpSt1 size2 rfl (.tmp 26) (.const (.int .i64 0)) rfl rfl b (18+n) 0 (.int .i64 0) (⟨rfl,rfl⟩) rfl rfl (unhide M) rfl (by show 18+n<40;omega) (Rk.ops_set _ ln n hn 0) ?_;intro W13 N13;replace M:Hid (Mm [b] w W13 [(b,80,(r.rel1 n).C ln)]):=hide N13;clear N13;have c0:W13.cell? ⟨b,0,none⟩=some (.int .i64 (n:Int)):=(by rw [← unhide HX];exact fits_cell ((unhide M).at 0 _ rfl) 0 _ rfl);refine Stp.go ?_))
 constructor
 go_wp2_with (first |(refine wpSt1 size3 rfl (.tmp 35) (.const (.int .i64 (-1))) rfl rfl b (0) 0 (.int .i64 (-1)) (⟨rfl,rfl⟩) rfl rfl (unhide M) rfl (show 0+1≤_ from Nat.le_of_ble_eq_true rfl) (rfl) ?_;intro W14 N14;replace M:Hid (Mm [b] w W14 [(b,80,(r.rel1 n).noX.C ln)]):=hide N14;clear N14;clear c0;replace M:Hid (Mm [b] w W14 [(b,80,(r.rel n).C ln)]):=(by have h9:=unhide M;rw [unhide HEr] at h9;exact h9);have c29:W14.cell? ⟨b,29,none⟩=some (.int .i64 3):=(by rw [← unhide HWt];exact fits_cell ((unhide M).at 0 _ rfl) 29 _ rfl);refine Stp.go ?_))
 constructor
 go_wp2_with fail
 go_ret
 exact RR.rc (r:=(r.rel n,[])) ⟨_,rfl,New.nil _ _ _ _,(unhide M).at 0 _ rfl,(unhide M).kept⟩ (unhide H).blk (unhide H).row
theorem rrel_N5x (r:Rk) (ln:Value) (b:Nat) (L:List Wi) (n:Nat) (c:Int) (w:World) (h:Rs w b ln r L) (hn:n<8) (hx:  r.x=(n:Int)) (ho:¬r.ow=(n:Int)) (w1:¬r.wt=1) (w2:¬r.wt=2) (w3:¬r.wt=3):Calls Try.prog 31 #[P0 b,.int .i64 n,.int .i64 c] w (RC b ln w ((r.rel n),L,[])):=by
 have HEr:Hid (((r.rel1 n).noX)=r.rel n):=by show _=_;simp [Rk.rel,Rk.rel1,Rk.noX,hx,ho]
 have H:=hide h
 have M:=hide (Mm.one h.blk)
 have hnI:(n:Int)<8:=by omega
 have P47:=t47 (n:=n) (by omega)
 have c1:=fits_cell h.blk 1 _ rfl
 have hoa:decide (r.ow=(n:Int))=false:=nef_a ho
 have hob:(r.ow == (n:Int))=false:=nef_b ho
 have hoc:(r.ow !=(n:Int))=true:=nef_c ho
 have HX:=hide hx
 clear hx
 have w1a:decide (r.wt=1)=false:=nef_a w1
 have w1b:(r.wt == 1)=false:=nef_b w1
 have w1c:(r.wt !=1)=true:=nef_c w1
 have w2a:decide (r.wt=2)=false:=nef_a w2
 have w2b:(r.wt == 2)=false:=nef_b w2
 have w2c:(r.wt !=2)=true:=nef_c w2
 have w3a:decide (r.wt=3)=false:=nef_a w3
 have w3b:(r.wt == 3)=false:=nef_b w3
 have w3c:(r.wt !=3)=true:=nef_c w3
 clear h
 go_enter Try.func31,Try.ntmps31
 go_wp2_with (first |(go_at_call 26;refine(unhide (P47 _)).mono ?_;rintro e W11 ⟨rfl,q11⟩;replace q11:=q11.symm;subst q11;refine Stp.go ?_))
 constructor
 go_wp2_with (first |(refine wpSt1 size4 rfl (.tmp 21) (.const (.bool false)) rfl rfl b (2+n) 0 (.bool false) (⟨rfl,rfl⟩) rfl rfl (unhide M) rfl (by show 2+n<40;omega) (Rk.sh_set r ln n hn false) ?_;intro W12 N12;replace M:Hid (Mm [b] w W12 [(b,80,({ r with sh:=upd r.sh n false } :Rk).C ln)]):=hide N12;clear N12;clear c1;refine Stp.go ?_))
 constructor
 go_wp2_with (first |(refine wpSt1 size2 rfl (.tmp 26) (.const (.int .i64 0)) rfl rfl b (18+n) 0 (.int .i64 0) (⟨rfl,rfl⟩) rfl rfl (unhide M) rfl (by show 18+n<40;omega) (Rk.ops_set _ ln n hn 0) ?_;intro W13 N13;replace M:Hid (Mm [b] w W13 [(b,80,(r.rel1 n).C ln)]):=hide N13;clear N13;have c0:W13.cell? ⟨b,0,none⟩=some (.int .i64 (n:Int)):=(by rw [← unhide HX];exact fits_cell ((unhide M).at 0 _ rfl) 0 _ rfl);refine Stp.go ?_))
 constructor
 go_wp2_with (first |(refine wpSt1 size3 rfl (.tmp 35) (.const (.int .i64 (-1))) rfl rfl b (0) 0 (.int .i64 (-1)) (⟨rfl,rfl⟩) rfl rfl (unhide M) rfl (show 0+1≤_ from Nat.le_of_ble_eq_true rfl) (rfl) ?_;intro W14 N14;replace M:Hid (Mm [b] w W14 [(b,80,(r.rel1 n).noX.C ln)]):=hide N14;clear N14;clear c0;replace M:Hid (Mm [b] w W14 [(b,80,(r.rel n).C ln)]):=(by have h9:=unhide M;rw [unhide HEr] at h9;exact h9);have c29:W14.cell? ⟨b,29,none⟩=some (.int .i64 r.wt):=fits_cell ((unhide M).at 0 _ rfl) 29 _ rfl;refine Stp.go ?_))
 constructor
 go_wp2_with fail
 go_ret
 exact RR.rc (r:=(r.rel n,[])) ⟨_,rfl,New.nil _ _ _ _,(unhide M).at 0 _ rfl,(unhide M).kept⟩ (unhide H).blk (unhide H).row
theorem rrel_Axo (r:Rk) (ln:Value) (b:Nat) (L:List Wi) (n:Nat) (c:Int) (w:World) (h:Rs w b ln r L) (hn:n<8) (hx:  r.x=(n:Int)) (ho:  r.ow=(n:Int)) (hw:r.wt=1) (hg:r.gn n=true):Calls Try.prog 31 #[P0 b,.int .i64 n,.int .i64 c] w (RC b ln w (raway (r.rel n) L n)):=by
 have HEr:Hid (((r.rel1 n).noX.noOw)=r.rel n):=by show _=_;simp [Rk.rel,Rk.rel1,Rk.noX,Rk.noOw,hx,ho]
 have H:=hide h
 have M:=hide (Mm.one h.blk)
 have hnI:(n:Int)<8:=by omega
 have P47:=t47 (n:=n) (by omega)
 have c1:=fits_cell h.blk 1 _ rfl
 rw [ho] at c1
 clear ho
 have HX:=hide hx
 clear hx
 have HWt:=hide hw
 clear hw
 have HGn:=hide hg
 clear hg
 clear h
 go_enter Try.func31,Try.ntmps31
 go_wp2_with (first |(go_at_call 26;refine(unhide (P47 _)).mono ?_;rintro e W11 ⟨rfl,q11⟩;replace q11:=q11.symm;subst q11;refine Stp.go ?_))
 constructor
 go_wp2_with (first |(refine wpSt1 size4 rfl (.tmp 21) (.const (.bool false)) rfl rfl b (2+n) 0 (.bool false) (⟨rfl,rfl⟩) rfl rfl (unhide M) rfl (by show 2+n<40;omega) (Rk.sh_set r ln n hn false) ?_;intro W12 N12;replace M:Hid (Mm [b] w W12 [(b,80,({ r with sh:=upd r.sh n false } :Rk).C ln)]):=hide N12;clear N12;clear c1;refine Stp.go ?_))
 constructor
 go_wp2_with (first |(refine wpSt1 size2 rfl (.tmp 26) (.const (.int .i64 0)) rfl rfl b (18+n) 0 (.int .i64 0) (⟨rfl,rfl⟩) rfl rfl (unhide M) rfl (by show 18+n<40;omega) (Rk.ops_set _ ln n hn 0) ?_;intro W13 N13;replace M:Hid (Mm [b] w W13 [(b,80,(r.rel1 n).C ln)]):=hide N13;clear N13;have c0:W13.cell? ⟨b,0,none⟩=some (.int .i64 (n:Int)):=(by rw [← unhide HX];exact fits_cell ((unhide M).at 0 _ rfl) 0 _ rfl);refine Stp.go ?_))
 constructor
 go_wp2_with (first |(refine wpSt1 size3 rfl (.tmp 35) (.const (.int .i64 (-1))) rfl rfl b (0) 0 (.int .i64 (-1)) (⟨rfl,rfl⟩) rfl rfl (unhide M) rfl (show 0+1≤_ from Nat.le_of_ble_eq_true rfl) (rfl) ?_;intro W14 N14;replace M:Hid (Mm [b] w W14 [(b,80,(r.rel1 n).noX.C ln)]):=hide N14;clear N14;clear c0;refine Stp.go ?_))
 constructor
 go_wp2_with (first |(refine wpSt1 size3 rfl (.tmp 39) (.const (.int .i64 (-1))) rfl rfl b (1) 0 (.int .i64 (-1)) (⟨rfl,rfl⟩) rfl rfl (unhide M) rfl (show 1+1≤_ from Nat.le_of_ble_eq_true rfl) (rfl) ?_;intro W15 N15;replace M:Hid (Mm [b] w W15 [(b,80,(r.rel1 n).noX.noOw.C ln)]):=hide N15;clear N15;replace M:Hid (Mm [b] w W15 [(b,80,(r.rel n).C ln)]):=(by have h9:=unhide M;rw [unhide HEr] at h9;exact h9);have c29:W15.cell? ⟨b,29,none⟩=some (.int .i64 1):=(by rw [← unhide HWt];exact fits_cell ((unhide M).at 0 _ rfl) 29 _ rfl);have cg:W15.cell? ⟨b,30+n,none⟩=some (.bool true):=(by have h9:=Blk.rgn ((unhide M).at 0 _ rfl) hn;rw [show (r.rel n).gn n=_ from unhide HGn] at h9;exact h9);refine Stp.go ?_))
 constructor
 go_wp2_with (first |(go_at_call 63;refine(raway63 (r.rel n) ln b L n _ ⟨(unhide M).at 0 _ rfl,((unhide H).row1 (unhide M).kept),rel_ok (unhide H).ok n,(unhide H).all,(unhide H).op0,(unhide H).op1,(unhide H).len⟩ hn).mono ?_;rintro e W90 ⟨v,ln2,rfl,N9,B9,R9,K9,S9⟩;have HN:=hide (N9.elder (w:=w) (unhide M).kept.size);have HB9:=hide B9;have HR9:=hide R9;have HK9:Hid (Kept (b::spare ln) w W90):=((unhide M).kept.mono (by simp)).trans K9;have HS9:Hid (Grw w ln ln2):=S9.elder (unhide M).kept.size;clear N9 B9 R9 K9 S9 c29 cg;refine Stp.go ?_))
 constructor
 go_wp2_with fail
 go_ret
 exact⟨v,ln2,rfl,unhide HN,unhide HB9,unhide HR9,unhide HK9,unhide HS9⟩
theorem rrel_Bxo (r:Rk) (ln:Value) (b:Nat) (L:List Wi) (n:Nat) (c:Int) (w:World) (h:Rs w b ln r L) (hn:n<8) (hx:  r.x=(n:Int)) (ho:  r.ow=(n:Int)) (hw:r.wt=2) (hu:r.su=(n:Int)) (hc:c<r.op):Calls Try.prog 31 #[P0 b,.int .i64 n,.int .i64 c] w (RC b ln w (rbegP (r.rel n).opUp L)):=by
 have HEr:Hid (((r.rel1 n).noX.noOw)=r.rel n):=by show _=_;simp [Rk.rel,Rk.rel1,Rk.noX,Rk.noOw,hx,ho]
 have H:=hide h
 have M:=hide (Mm.one h.blk)
 have hnI:(n:Int)<8:=by omega
 have P47:=t47 (n:=n) (by omega)
 have c1:=fits_cell h.blk 1 _ rfl
 rw [ho] at c1
 clear ho
 have HX:=hide hx
 clear hx
 have HWt:=hide hw
 clear hw
 have HU:=hide hu
 clear hu
 have hcd:decide (c<r.op)=true:=by simpa using hc
 have o0:=h.op0
 have o1:r.op≤900000:=by have:=h.op1;omega
 clear h
 go_enter Try.func31,Try.ntmps31
 go_wp2_with (first |(go_at_call 26;refine(unhide (P47 _)).mono ?_;rintro e W11 ⟨rfl,q11⟩;replace q11:=q11.symm;subst q11;refine Stp.go ?_))
 constructor
 go_wp2_with (first |(refine wpSt1 size4 rfl (.tmp 21) (.const (.bool false)) rfl rfl b (2+n) 0 (.bool false) (⟨rfl,rfl⟩) rfl rfl (unhide M) rfl (by show 2+n<40;omega) (Rk.sh_set r ln n hn false) ?_;intro W12 N12;replace M:Hid (Mm [b] w W12 [(b,80,({ r with sh:=upd r.sh n false } :Rk).C ln)]):=hide N12;clear N12;clear c1;refine Stp.go ?_))
 constructor
 go_wp2_with (first |(refine wpSt1 size2 rfl (.tmp 26) (.const (.int .i64 0)) rfl rfl b (18+n) 0 (.int .i64 0) (⟨rfl,rfl⟩) rfl rfl (unhide M) rfl (by show 18+n<40;omega) (Rk.ops_set _ ln n hn 0) ?_;intro W13 N13;replace M:Hid (Mm [b] w W13 [(b,80,(r.rel1 n).C ln)]):=hide N13;clear N13;have c0:W13.cell? ⟨b,0,none⟩=some (.int .i64 (n:Int)):=(by rw [← unhide HX];exact fits_cell ((unhide M).at 0 _ rfl) 0 _ rfl);refine Stp.go ?_))
 constructor
 go_wp2_with (first |(refine wpSt1 size3 rfl (.tmp 35) (.const (.int .i64 (-1))) rfl rfl b (0) 0 (.int .i64 (-1)) (⟨rfl,rfl⟩) rfl rfl (unhide M) rfl (show 0+1≤_ from Nat.le_of_ble_eq_true rfl) (rfl) ?_;intro W14 N14;replace M:Hid (Mm [b] w W14 [(b,80,(r.rel1 n).noX.C ln)]):=hide N14;clear N14;clear c0;refine Stp.go ?_))
 constructor
 go_wp2_with (first |(refine wpSt1 size3 rfl (.tmp 39) (.const (.int .i64 (-1))) rfl rfl b (1) 0 (.int .i64 (-1)) (⟨rfl,rfl⟩) rfl rfl (unhide M) rfl (show 1+1≤_ from Nat.le_of_ble_eq_true rfl) (rfl) ?_;intro W15 N15;replace M:Hid (Mm [b] w W15 [(b,80,(r.rel1 n).noX.noOw.C ln)]):=hide N15;clear N15;replace M:Hid (Mm [b] w W15 [(b,80,(r.rel n).C ln)]):=(by have h9:=unhide M;rw [unhide HEr] at h9;exact h9);have c29:W15.cell? ⟨b,29,none⟩=some (.int .i64 2):=(by rw [← unhide HWt];exact fits_cell ((unhide M).at 0 _ rfl) 29 _ rfl);have c38:W15.cell? ⟨b,38,none⟩=some (.int .i64 (n:Int)):=(by rw [← unhide HU];exact fits_cell ((unhide M).at 0 _ rfl) 38 _ rfl);have c39:W15.cell? ⟨b,39,none⟩=some (.int .i64 r.op):=fits_cell ((unhide M).at 0 _ rfl) 39 _ rfl;refine Stp.go ?_))
 constructor
 go_wp2_with (first |(refine wpSt1 size2 rfl (.tmp 83) (.tmp 81) rfl rfl b (39) 0 (.int .i64 (r.op+1)) (⟨rfl,rfl⟩) rfl rfl (unhide M) rfl (show 39+1≤_ from Nat.le_of_ble_eq_true rfl) (rfl) ?_;intro W16 N16;replace M:Hid (Mm [b] w W16 [(b,80,(r.rel n).opUp.C ln)]):=hide N16;clear N16;clear c29 c38 c39;refine Stp.go ?_))
 constructor
 go_wp2_with (first |(go_at_call 64;refine(rbegin64 L (r.rel n).opUp ln b _ ((unhide M).at 0 _ rfl) ((unhide H).row1 (unhide M).kept) (ropUp_ok (rel_ok (unhide H).ok n)) (unhide H).all (by have:=(unhide H).len;omega) (by show 0≤r.op+1;have:=(unhide H).op0;omega) (by show r.op+1+L.length≤1000000;have:=(unhide H).op1;omega)).mono ?_;rintro e W90 ⟨v,ln2,rfl,N9,B9,R9,K9,S9⟩;have HN:=hide (N9.elder (w:=w) (unhide M).kept.size);have HB9:=hide B9;have HR9:=hide R9;have HK9:Hid (Kept (b::spare ln) w W90):=((unhide M).kept.mono (by simp)).trans K9;have HS9:Hid (Grw w ln ln2):=S9.elder (unhide M).kept.size;clear N9 B9 R9 K9 S9;refine Stp.go ?_))
 constructor
 go_wp2_with fail
 go_ret
 exact⟨v,ln2,rfl,unhide HN,unhide HB9,unhide HR9,unhide HK9,unhide HS9⟩
theorem rrel_Cxo (r:Rk) (ln:Value) (b:Nat) (L:List Wi) (n:Nat) (c:Int) (w:World) (h:Rs w b ln r L) (hn:n<8) (hx:  r.x=(n:Int)) (ho:  r.ow=(n:Int)) (hw:r.wt=3):Calls Try.prog 31 #[P0 b,.int .i64 n,.int .i64 c] w (RC b ln w (rneed (fun r'=>rdone r' L) (r.rel n))):=by
 have HEr:Hid (((r.rel1 n).noX.noOw)=r.rel n):=by show _=_;simp [Rk.rel,Rk.rel1,Rk.noX,Rk.noOw,hx,ho]
 have H:=hide h
 have M:=hide (Mm.one h.blk)
 have hnI:(n:Int)<8:=by omega
 have P47:=t47 (n:=n) (by omega)
 have c1:=fits_cell h.blk 1 _ rfl
 rw [ho] at c1
 clear ho
 have HX:=hide hx
 clear hx
 have HWt:=hide hw
 clear hw
 clear h
 go_enter Try.func31,Try.ntmps31
 go_wp2_with (first |(go_at_call 26;refine(unhide (P47 _)).mono ?_;rintro e W11 ⟨rfl,q11⟩;replace q11:=q11.symm;subst q11;refine Stp.go ?_))
 constructor
 go_wp2_with (first |(refine wpSt1 size4 rfl (.tmp 21) (.const (.bool false)) rfl rfl b (2+n) 0 (.bool false) (⟨rfl,rfl⟩) rfl rfl (unhide M) rfl (by show 2+n<40;omega) (Rk.sh_set r ln n hn false) ?_;intro W12 N12;replace M:Hid (Mm [b] w W12 [(b,80,({ r with sh:=upd r.sh n false } :Rk).C ln)]):=hide N12;clear N12;clear c1;refine Stp.go ?_))
 constructor
 go_wp2_with (first |(refine wpSt1 size2 rfl (.tmp 26) (.const (.int .i64 0)) rfl rfl b (18+n) 0 (.int .i64 0) (⟨rfl,rfl⟩) rfl rfl (unhide M) rfl (by show 18+n<40;omega) (Rk.ops_set _ ln n hn 0) ?_;intro W13 N13;replace M:Hid (Mm [b] w W13 [(b,80,(r.rel1 n).C ln)]):=hide N13;clear N13;have c0:W13.cell? ⟨b,0,none⟩=some (.int .i64 (n:Int)):=(by rw [← unhide HX];exact fits_cell ((unhide M).at 0 _ rfl) 0 _ rfl);refine Stp.go ?_))
 constructor
 go_wp2_with (first |(refine wpSt1 size3 rfl (.tmp 35) (.const (.int .i64 (-1))) rfl rfl b (0) 0 (.int .i64 (-1)) (⟨rfl,rfl⟩) rfl rfl (unhide M) rfl (show 0+1≤_ from Nat.le_of_ble_eq_true rfl) (rfl) ?_;intro W14 N14;replace M:Hid (Mm [b] w W14 [(b,80,(r.rel1 n).noX.C ln)]):=hide N14;clear N14;clear c0;refine Stp.go ?_))
 constructor
 go_wp2_with (first |(refine wpSt1 size3 rfl (.tmp 39) (.const (.int .i64 (-1))) rfl rfl b (1) 0 (.int .i64 (-1)) (⟨rfl,rfl⟩) rfl rfl (unhide M) rfl (show 1+1≤_ from Nat.le_of_ble_eq_true rfl) (rfl) ?_;intro W15 N15;replace M:Hid (Mm [b] w W15 [(b,80,(r.rel1 n).noX.noOw.C ln)]):=hide N15;clear N15;replace M:Hid (Mm [b] w W15 [(b,80,(r.rel n).C ln)]):=(by have h9:=unhide M;rw [unhide HEr] at h9;exact h9);have c29:W15.cell? ⟨b,29,none⟩=some (.int .i64 3):=(by rw [← unhide HWt];exact fits_cell ((unhide M).at 0 _ rfl) 29 _ rfl);refine Stp.go ?_))
 constructor
 go_wp2_with (first |(go_at_call 65;refine(rneed65 L (rdone_ok L (unhide H).all (by have:=(unhide H).len;omega)) (r.rel n) ln b _ ((unhide M).at 0 _ rfl) ((unhide H).row1 (unhide M).kept) (rel_ok (unhide H).ok n) (unhide H).op0 (by show r.op+L.length≤1000000;have:=(unhide H).op1;omega) (by have:=(unhide H).len;omega)).mono ?_;rintro e W90 ⟨v,ln2,rfl,N9,B9,R9,K9,S9⟩;have HN:=hide (N9.elder (w:=w) (unhide M).kept.size);have HB9:=hide B9;have HR9:=hide R9;have HK9:Hid (Kept (b::spare ln) w W90):=((unhide M).kept.mono (by simp)).trans K9;have HS9:Hid (Grw w ln ln2):=S9.elder (unhide M).kept.size;clear N9 B9 R9 K9 S9 c29;refine Stp.go ?_))
 constructor
 go_wp2_with fail
 go_ret
 exact⟨v,ln2,rfl,unhide HN,unhide HB9,unhide HR9,unhide HK9,unhide HS9⟩
theorem rrel_N1xo (r:Rk) (ln:Value) (b:Nat) (L:List Wi) (n:Nat) (c:Int) (w:World) (h:Rs w b ln r L) (hn:n<8) (hx:  r.x=(n:Int)) (ho:  r.ow=(n:Int)) (hw:r.wt=1) (hg:r.gn n=false):Calls Try.prog 31 #[P0 b,.int .i64 n,.int .i64 c] w (RC b ln w ((r.rel n),L,[])):=by
 have HEr:Hid (((r.rel1 n).noX.noOw)=r.rel n):=by show _=_;simp [Rk.rel,Rk.rel1,Rk.noX,Rk.noOw,hx,ho]
 have H:=hide h
 have M:=hide (Mm.one h.blk)
 have hnI:(n:Int)<8:=by omega
 have P47:=t47 (n:=n) (by omega)
 have c1:=fits_cell h.blk 1 _ rfl
 rw [ho] at c1
 clear ho
 have HX:=hide hx
 clear hx
 have HWt:=hide hw
 clear hw
 have HGn:=hide hg
 clear hg
 clear h
 go_enter Try.func31,Try.ntmps31
 go_wp2_with (first |(go_at_call 26;refine(unhide (P47 _)).mono ?_;rintro e W11 ⟨rfl,q11⟩;replace q11:=q11.symm;subst q11;refine Stp.go ?_))
 constructor
 go_wp2_with (first |(refine wpSt1 size4 rfl (.tmp 21) (.const (.bool false)) rfl rfl b (2+n) 0 (.bool false) (⟨rfl,rfl⟩) rfl rfl (unhide M) rfl (by show 2+n<40;omega) (Rk.sh_set r ln n hn false) ?_;intro W12 N12;replace M:Hid (Mm [b] w W12 [(b,80,({ r with sh:=upd r.sh n false } :Rk).C ln)]):=hide N12;clear N12;clear c1;refine Stp.go ?_))
 constructor
 go_wp2_with (first |(refine wpSt1 size2 rfl (.tmp 26) (.const (.int .i64 0)) rfl rfl b (18+n) 0 (.int .i64 0) (⟨rfl,rfl⟩) rfl rfl (unhide M) rfl (by show 18+n<40;omega) (Rk.ops_set _ ln n hn 0) ?_;intro W13 N13;replace M:Hid (Mm [b] w W13 [(b,80,(r.rel1 n).C ln)]):=hide N13;clear N13;have c0:W13.cell? ⟨b,0,none⟩=some (.int .i64 (n:Int)):=(by rw [← unhide HX];exact fits_cell ((unhide M).at 0 _ rfl) 0 _ rfl);refine Stp.go ?_))
 constructor
 go_wp2_with (first |(refine wpSt1 size3 rfl (.tmp 35) (.const (.int .i64 (-1))) rfl rfl b (0) 0 (.int .i64 (-1)) (⟨rfl,rfl⟩) rfl rfl (unhide M) rfl (show 0+1≤_ from Nat.le_of_ble_eq_true rfl) (rfl) ?_;intro W14 N14;replace M:Hid (Mm [b] w W14 [(b,80,(r.rel1 n).noX.C ln)]):=hide N14;clear N14;clear c0;refine Stp.go ?_))
 constructor
 go_wp2_with (first |(refine wpSt1 size3 rfl (.tmp 39) (.const (.int .i64 (-1))) rfl rfl b (1) 0 (.int .i64 (-1)) (⟨rfl,rfl⟩) rfl rfl (unhide M) rfl (show 1+1≤_ from Nat.le_of_ble_eq_true rfl) (rfl) ?_;intro W15 N15;replace M:Hid (Mm [b] w W15 [(b,80,(r.rel1 n).noX.noOw.C ln)]):=hide N15;clear N15;replace M:Hid (Mm [b] w W15 [(b,80,(r.rel n).C ln)]):=(by have h9:=unhide M;rw [unhide HEr] at h9;exact h9);have c29:W15.cell? ⟨b,29,none⟩=some (.int .i64 1):=(by rw [← unhide HWt];exact fits_cell ((unhide M).at 0 _ rfl) 29 _ rfl);have cg:W15.cell? ⟨b,30+n,none⟩=some (.bool false):=(by have h9:=Blk.rgn ((unhide M).at 0 _ rfl) hn;rw [show (r.rel n).gn n=_ from unhide HGn] at h9;exact h9);refine Stp.go ?_))
 constructor
 go_wp2_with fail
 go_ret
 exact RR.rc (r:=(r.rel n,[])) ⟨_,rfl,New.nil _ _ _ _,(unhide M).at 0 _ rfl,(unhide M).kept⟩ (unhide H).blk (unhide H).row
theorem rrel_N2xo (r:Rk) (ln:Value) (b:Nat) (L:List Wi) (n:Nat) (c:Int) (w:World) (h:Rs w b ln r L) (hn:n<8) (hx:  r.x=(n:Int)) (ho:  r.ow=(n:Int)) (hw:r.wt=2) (hu:¬r.su=(n:Int)):Calls Try.prog 31 #[P0 b,.int .i64 n,.int .i64 c] w (RC b ln w ((r.rel n),L,[])):=by
 have HEr:Hid (((r.rel1 n).noX.noOw)=r.rel n):=by show _=_;simp [Rk.rel,Rk.rel1,Rk.noX,Rk.noOw,hx,ho]
 have H:=hide h
 have M:=hide (Mm.one h.blk)
 have hnI:(n:Int)<8:=by omega
 have P47:=t47 (n:=n) (by omega)
 have c1:=fits_cell h.blk 1 _ rfl
 rw [ho] at c1
 clear ho
 have HX:=hide hx
 clear hx
 have HWt:=hide hw
 clear hw
 have hua:decide (r.su=(n:Int))=false:=nef_a hu
 have hub:(r.su == (n:Int))=false:=nef_b hu
 have huc:(r.su !=(n:Int))=true:=nef_c hu
 clear h
 go_enter Try.func31,Try.ntmps31
 go_wp2_with (first |(go_at_call 26;refine(unhide (P47 _)).mono ?_;rintro e W11 ⟨rfl,q11⟩;replace q11:=q11.symm;subst q11;refine Stp.go ?_))
 constructor
 go_wp2_with (first |(refine wpSt1 size4 rfl (.tmp 21) (.const (.bool false)) rfl rfl b (2+n) 0 (.bool false) (⟨rfl,rfl⟩) rfl rfl (unhide M) rfl (by show 2+n<40;omega) (Rk.sh_set r ln n hn false) ?_;intro W12 N12;replace M:Hid (Mm [b] w W12 [(b,80,({ r with sh:=upd r.sh n false } :Rk).C ln)]):=hide N12;clear N12;clear c1;refine Stp.go ?_))
 constructor
 go_wp2_with (first |(refine wpSt1 size2 rfl (.tmp 26) (.const (.int .i64 0)) rfl rfl b (18+n) 0 (.int .i64 0) (⟨rfl,rfl⟩) rfl rfl (unhide M) rfl (by show 18+n<40;omega) (Rk.ops_set _ ln n hn 0) ?_;intro W13 N13;replace M:Hid (Mm [b] w W13 [(b,80,(r.rel1 n).C ln)]):=hide N13;clear N13;have c0:W13.cell? ⟨b,0,none⟩=some (.int .i64 (n:Int)):=(by rw [← unhide HX];exact fits_cell ((unhide M).at 0 _ rfl) 0 _ rfl);refine Stp.go ?_))
 constructor
 go_wp2_with (first |(refine wpSt1 size3 rfl (.tmp 35) (.const (.int .i64 (-1))) rfl rfl b (0) 0 (.int .i64 (-1)) (⟨rfl,rfl⟩) rfl rfl (unhide M) rfl (show 0+1≤_ from Nat.le_of_ble_eq_true rfl) (rfl) ?_;intro W14 N14;replace M:Hid (Mm [b] w W14 [(b,80,(r.rel1 n).noX.C ln)]):=hide N14;clear N14;clear c0;refine Stp.go ?_))
 constructor
 go_wp2_with (first |(refine wpSt1 size3 rfl (.tmp 39) (.const (.int .i64 (-1))) rfl rfl b (1) 0 (.int .i64 (-1)) (⟨rfl,rfl⟩) rfl rfl (unhide M) rfl (show 1+1≤_ from Nat.le_of_ble_eq_true rfl) (rfl) ?_;intro W15 N15;replace M:Hid (Mm [b] w W15 [(b,80,(r.rel1 n).noX.noOw.C ln)]):=hide N15;clear N15;replace M:Hid (Mm [b] w W15 [(b,80,(r.rel n).C ln)]):=(by have h9:=unhide M;rw [unhide HEr] at h9;exact h9);have c29:W15.cell? ⟨b,29,none⟩=some (.int .i64 2):=(by rw [← unhide HWt];exact fits_cell ((unhide M).at 0 _ rfl) 29 _ rfl);have c38:W15.cell? ⟨b,38,none⟩=some (.int .i64 r.su):=fits_cell ((unhide M).at 0 _ rfl) 38 _ rfl;refine Stp.go ?_))
 constructor
 go_wp2_with fail
 go_ret
 exact RR.rc (r:=(r.rel n,[])) ⟨_,rfl,New.nil _ _ _ _,(unhide M).at 0 _ rfl,(unhide M).kept⟩ (unhide H).blk (unhide H).row
theorem rrel_N3xo (r:Rk) (ln:Value) (b:Nat) (L:List Wi) (n:Nat) (c:Int) (w:World) (h:Rs w b ln r L) (hn:n<8) (hx:  r.x=(n:Int)) (ho:  r.ow=(n:Int)) (hw:r.wt=2) (hu:r.su=(n:Int)) (hc:¬c<r.op):Calls Try.prog 31 #[P0 b,.int .i64 n,.int .i64 c] w (RC b ln w ((r.rel n),L,[])):=by
 have HEr:Hid (((r.rel1 n).noX.noOw)=r.rel n):=by show _=_;simp [Rk.rel,Rk.rel1,Rk.noX,Rk.noOw,hx,ho]
 have H:=hide h
 have M:=hide (Mm.one h.blk)
 have hnI:(n:Int)<8:=by omega
 have P47:=t47 (n:=n) (by omega)
 have c1:=fits_cell h.blk 1 _ rfl
 rw [ho] at c1
 clear ho
 have HX:=hide hx
 clear hx
 have HWt:=hide hw
 clear hw
 have HU:=hide hu
 clear hu
 have hcd:decide (c<r.op)=false:=by simpa using hc
 clear h
 go_enter Try.func31,Try.ntmps31
 go_wp2_with (first |(go_at_call 26;refine(unhide (P47 _)).mono ?_;rintro e W11 ⟨rfl,q11⟩;replace q11:=q11.symm;subst q11;refine Stp.go ?_))
 constructor
 go_wp2_with (first |(refine wpSt1 size4 rfl (.tmp 21) (.const (.bool false)) rfl rfl b (2+n) 0 (.bool false) (⟨rfl,rfl⟩) rfl rfl (unhide M) rfl (by show 2+n<40;omega) (Rk.sh_set r ln n hn false) ?_;intro W12 N12;replace M:Hid (Mm [b] w W12 [(b,80,({ r with sh:=upd r.sh n false } :Rk).C ln)]):=hide N12;clear N12;clear c1;refine Stp.go ?_))
 constructor
 go_wp2_with (first |(refine wpSt1 size2 rfl (.tmp 26) (.const (.int .i64 0)) rfl rfl b (18+n) 0 (.int .i64 0) (⟨rfl,rfl⟩) rfl rfl (unhide M) rfl (by show 18+n<40;omega) (Rk.ops_set _ ln n hn 0) ?_;intro W13 N13;replace M:Hid (Mm [b] w W13 [(b,80,(r.rel1 n).C ln)]):=hide N13;clear N13;have c0:W13.cell? ⟨b,0,none⟩=some (.int .i64 (n:Int)):=(by rw [← unhide HX];exact fits_cell ((unhide M).at 0 _ rfl) 0 _ rfl);refine Stp.go ?_))
 constructor
 go_wp2_with (first |(refine wpSt1 size3 rfl (.tmp 35) (.const (.int .i64 (-1))) rfl rfl b (0) 0 (.int .i64 (-1)) (⟨rfl,rfl⟩) rfl rfl (unhide M) rfl (show 0+1≤_ from Nat.le_of_ble_eq_true rfl) (rfl) ?_;intro W14 N14;replace M:Hid (Mm [b] w W14 [(b,80,(r.rel1 n).noX.C ln)]):=hide N14;clear N14;clear c0;refine Stp.go ?_))
 constructor
 go_wp2_with (first |(refine wpSt1 size3 rfl (.tmp 39) (.const (.int .i64 (-1))) rfl rfl b (1) 0 (.int .i64 (-1)) (⟨rfl,rfl⟩) rfl rfl (unhide M) rfl (show 1+1≤_ from Nat.le_of_ble_eq_true rfl) (rfl) ?_;intro W15 N15;replace M:Hid (Mm [b] w W15 [(b,80,(r.rel1 n).noX.noOw.C ln)]):=hide N15;clear N15;replace M:Hid (Mm [b] w W15 [(b,80,(r.rel n).C ln)]):=(by have h9:=unhide M;rw [unhide HEr] at h9;exact h9);have c29:W15.cell? ⟨b,29,none⟩=some (.int .i64 2):=(by rw [← unhide HWt];exact fits_cell ((unhide M).at 0 _ rfl) 29 _ rfl);have c38:W15.cell? ⟨b,38,none⟩=some (.int .i64 (n:Int)):=(by rw [← unhide HU];exact fits_cell ((unhide M).at 0 _ rfl) 38 _ rfl);have c39:W15.cell? ⟨b,39,none⟩=some (.int .i64 r.op):=fits_cell ((unhide M).at 0 _ rfl) 39 _ rfl;refine Stp.go ?_))
 constructor
 go_wp2_with fail
 go_ret
 exact RR.rc (r:=(r.rel n,[])) ⟨_,rfl,New.nil _ _ _ _,(unhide M).at 0 _ rfl,(unhide M).kept⟩ (unhide H).blk (unhide H).row
theorem rrel_N5xo (r:Rk) (ln:Value) (b:Nat) (L:List Wi) (n:Nat) (c:Int) (w:World) (h:Rs w b ln r L) (hn:n<8) (hx:  r.x=(n:Int)) (ho:  r.ow=(n:Int)) (w1:¬r.wt=1) (w2:¬r.wt=2) (w3:¬r.wt=3):Calls Try.prog 31 #[P0 b,.int .i64 n,.int .i64 c] w (RC b ln w ((r.rel n),L,[])):=by
 have HEr:Hid (((r.rel1 n).noX.noOw)=r.rel n):=by show _=_;simp [Rk.rel,Rk.rel1,Rk.noX,Rk.noOw,hx,ho]
 have H:=hide h
 have M:=hide (Mm.one h.blk)
 have hnI:(n:Int)<8:=by omega
 have P47:=t47 (n:=n) (by omega)
 have c1:=fits_cell h.blk 1 _ rfl
 rw [ho] at c1
 clear ho
 have HX:=hide hx
 clear hx
 have w1a:decide (r.wt=1)=false:=nef_a w1
 have w1b:(r.wt == 1)=false:=nef_b w1
 have w1c:(r.wt !=1)=true:=nef_c w1
 have w2a:decide (r.wt=2)=false:=nef_a w2
 have w2b:(r.wt == 2)=false:=nef_b w2
 have w2c:(r.wt !=2)=true:=nef_c w2
 have w3a:decide (r.wt=3)=false:=nef_a w3
 have w3b:(r.wt == 3)=false:=nef_b w3
 have w3c:(r.wt !=3)=true:=nef_c w3
 clear h
 go_enter Try.func31,Try.ntmps31
 go_wp2_with (first |(go_at_call 26;refine(unhide (P47 _)).mono ?_;rintro e W11 ⟨rfl,q11⟩;replace q11:=q11.symm;subst q11;refine Stp.go ?_))
 constructor
 go_wp2_with (first |(refine wpSt1 size4 rfl (.tmp 21) (.const (.bool false)) rfl rfl b (2+n) 0 (.bool false) (⟨rfl,rfl⟩) rfl rfl (unhide M) rfl (by show 2+n<40;omega) (Rk.sh_set r ln n hn false) ?_;intro W12 N12;replace M:Hid (Mm [b] w W12 [(b,80,({ r with sh:=upd r.sh n false } :Rk).C ln)]):=hide N12;clear N12;clear c1;refine Stp.go ?_))
 constructor
 go_wp2_with (first |(refine wpSt1 size2 rfl (.tmp 26) (.const (.int .i64 0)) rfl rfl b (18+n) 0 (.int .i64 0) (⟨rfl,rfl⟩) rfl rfl (unhide M) rfl (by show 18+n<40;omega) (Rk.ops_set _ ln n hn 0) ?_;intro W13 N13;replace M:Hid (Mm [b] w W13 [(b,80,(r.rel1 n).C ln)]):=hide N13;clear N13;have c0:W13.cell? ⟨b,0,none⟩=some (.int .i64 (n:Int)):=(by rw [← unhide HX];exact fits_cell ((unhide M).at 0 _ rfl) 0 _ rfl);refine Stp.go ?_))
 constructor
 go_wp2_with (first |(refine wpSt1 size3 rfl (.tmp 35) (.const (.int .i64 (-1))) rfl rfl b (0) 0 (.int .i64 (-1)) (⟨rfl,rfl⟩) rfl rfl (unhide M) rfl (show 0+1≤_ from Nat.le_of_ble_eq_true rfl) (rfl) ?_;intro W14 N14;replace M:Hid (Mm [b] w W14 [(b,80,(r.rel1 n).noX.C ln)]):=hide N14;clear N14;clear c0;refine Stp.go ?_))
 constructor
 go_wp2_with (first |(refine wpSt1 size3 rfl (.tmp 39) (.const (.int .i64 (-1))) rfl rfl b (1) 0 (.int .i64 (-1)) (⟨rfl,rfl⟩) rfl rfl (unhide M) rfl (show 1+1≤_ from Nat.le_of_ble_eq_true rfl) (rfl) ?_;intro W15 N15;replace M:Hid (Mm [b] w W15 [(b,80,(r.rel1 n).noX.noOw.C ln)]):=hide N15;clear N15;replace M:Hid (Mm [b] w W15 [(b,80,(r.rel n).C ln)]):=(by have h9:=unhide M;rw [unhide HEr] at h9;exact h9);have c29:W15.cell? ⟨b,29,none⟩=some (.int .i64 r.wt):=fits_cell ((unhide M).at 0 _ rfl) 29 _ rfl;refine Stp.go ?_))
 constructor
 go_wp2_with fail
 go_ret
 exact RR.rc (r:=(r.rel n,[])) ⟨_,rfl,New.nil _ _ _ _,(unhide M).at 0 _ rfl,(unhide M).kept⟩ (unhide H).blk (unhide H).row
theorem rrelN_00 (r:Rk) (ln:Value) (b:Nat) (L:List Wi) (n:Nat) (c:Int) (w:World) (h:Rs w b ln r L) (hn:n<8) (hx:¬r.x=(n:Int)) (ho:¬r.ow=(n:Int)):Calls Try.prog 31 #[P0 b,.int .i64 n,.int .i64 c] w (RC b ln w (rrelN r L n c)):=by
 unfold rrelN
 by_cases w1:r.wt=1
 · cases hg:r.gn n with
   | true=>rw [if_pos ⟨w1,rfl⟩];exact rrel_A r ln b L n c w h hn hx ho w1 hg
   | false=>rw [if_neg (by simp),if_neg (by omega),if_neg (by omega)];exact rrel_N1 r ln b L n c w h hn hx ho w1 hg
 by_cases w2:r.wt=2
 · rw [if_neg (by omega)]
   by_cases hu:r.su=(n:Int)
   · by_cases hc:c<r.op
     · rw [if_pos ⟨w2,hu,hc⟩];exact rrel_B r ln b L n c w h hn hx ho w2 hu hc
     · rw [if_neg (by omega),if_neg (by omega)];exact rrel_N3 r ln b L n c w h hn hx ho w2 hu hc
   · rw [if_neg (by omega),if_neg (by omega)];exact rrel_N2 r ln b L n c w h hn hx ho w2 hu
 rw [if_neg (by omega),if_neg (by omega)]
 by_cases w3:r.wt=3
 · rw [if_neg (by omega)];exact rrel_N4 r ln b L n c w h hn hx ho w3
 · rw [if_neg (by omega)];exact rrel_N5 r ln b L n c w h hn hx ho w1 w2 w3
theorem rrelN_01 (r:Rk) (ln:Value) (b:Nat) (L:List Wi) (n:Nat) (c:Int) (w:World) (h:Rs w b ln r L) (hn:n<8) (hx:¬r.x=(n:Int)) (ho:  r.ow=(n:Int)):Calls Try.prog 31 #[P0 b,.int .i64 n,.int .i64 c] w (RC b ln w (rrelN r L n c)):=by
 unfold rrelN
 by_cases w1:r.wt=1
 · cases hg:r.gn n with
   | true=>rw [if_pos ⟨w1,rfl⟩];exact rrel_Ao r ln b L n c w h hn hx ho w1 hg
   | false=>rw [if_neg (by simp),if_neg (by omega),if_neg (by omega)];exact rrel_N1o r ln b L n c w h hn hx ho w1 hg
 by_cases w2:r.wt=2
 · rw [if_neg (by omega)]
   by_cases hu:r.su=(n:Int)
   · by_cases hc:c<r.op
     · rw [if_pos ⟨w2,hu,hc⟩];exact rrel_Bo r ln b L n c w h hn hx ho w2 hu hc
     · rw [if_neg (by omega),if_neg (by omega)];exact rrel_N3o r ln b L n c w h hn hx ho w2 hu hc
   · rw [if_neg (by omega),if_neg (by omega)];exact rrel_N2o r ln b L n c w h hn hx ho w2 hu
 rw [if_neg (by omega),if_neg (by omega)]
 by_cases w3:r.wt=3
 · rw [if_pos ⟨w3,ho⟩];exact rrel_Co r ln b L n c w h hn hx ho w3
 · rw [if_neg (by omega)];exact rrel_N5o r ln b L n c w h hn hx ho w1 w2 w3
theorem rrelN_10 (r:Rk) (ln:Value) (b:Nat) (L:List Wi) (n:Nat) (c:Int) (w:World) (h:Rs w b ln r L) (hn:n<8) (hx:  r.x=(n:Int)) (ho:¬r.ow=(n:Int)):Calls Try.prog 31 #[P0 b,.int .i64 n,.int .i64 c] w (RC b ln w (rrelN r L n c)):=by
 unfold rrelN
 by_cases w1:r.wt=1
 · cases hg:r.gn n with
   | true=>rw [if_pos ⟨w1,rfl⟩];exact rrel_Ax r ln b L n c w h hn hx ho w1 hg
   | false=>rw [if_neg (by simp),if_neg (by omega),if_neg (by omega)];exact rrel_N1x r ln b L n c w h hn hx ho w1 hg
 by_cases w2:r.wt=2
 · rw [if_neg (by omega)]
   by_cases hu:r.su=(n:Int)
   · by_cases hc:c<r.op
     · rw [if_pos ⟨w2,hu,hc⟩];exact rrel_Bx r ln b L n c w h hn hx ho w2 hu hc
     · rw [if_neg (by omega),if_neg (by omega)];exact rrel_N3x r ln b L n c w h hn hx ho w2 hu hc
   · rw [if_neg (by omega),if_neg (by omega)];exact rrel_N2x r ln b L n c w h hn hx ho w2 hu
 rw [if_neg (by omega),if_neg (by omega)]
 by_cases w3:r.wt=3
 · rw [if_neg (by omega)];exact rrel_N4x r ln b L n c w h hn hx ho w3
 · rw [if_neg (by omega)];exact rrel_N5x r ln b L n c w h hn hx ho w1 w2 w3
theorem rrelN_11 (r:Rk) (ln:Value) (b:Nat) (L:List Wi) (n:Nat) (c:Int) (w:World) (h:Rs w b ln r L) (hn:n<8) (hx:  r.x=(n:Int)) (ho:  r.ow=(n:Int)):Calls Try.prog 31 #[P0 b,.int .i64 n,.int .i64 c] w (RC b ln w (rrelN r L n c)):=by
 unfold rrelN
 by_cases w1:r.wt=1
 · cases hg:r.gn n with
   | true=>rw [if_pos ⟨w1,rfl⟩];exact rrel_Axo r ln b L n c w h hn hx ho w1 hg
   | false=>rw [if_neg (by simp),if_neg (by omega),if_neg (by omega)];exact rrel_N1xo r ln b L n c w h hn hx ho w1 hg
 by_cases w2:r.wt=2
 · rw [if_neg (by omega)]
   by_cases hu:r.su=(n:Int)
   · by_cases hc:c<r.op
     · rw [if_pos ⟨w2,hu,hc⟩];exact rrel_Bxo r ln b L n c w h hn hx ho w2 hu hc
     · rw [if_neg (by omega),if_neg (by omega)];exact rrel_N3xo r ln b L n c w h hn hx ho w2 hu hc
   · rw [if_neg (by omega),if_neg (by omega)];exact rrel_N2xo r ln b L n c w h hn hx ho w2 hu
 rw [if_neg (by omega),if_neg (by omega)]
 by_cases w3:r.wt=3
 · rw [if_pos ⟨w3,ho⟩];exact rrel_Cxo r ln b L n c w h hn hx ho w3
 · rw [if_neg (by omega)];exact rrel_N5xo r ln b L n c w h hn hx ho w1 w2 w3
theorem rrel37 (r:Rk) (ln:Value) (b:Nat) (L:List Wi) (m c:Int) (w:World) (h:Rs w b ln r L):Calls Try.prog 31 #[P0 b,.int .i64 m,.int .i64 c] w (RC b ln w (rrelP r L m c)):=by
 unfold rrelP
 cases hm:isN m with
 | false=>rw [if_neg (by simp)];exact rrel_a r ln b L m c w h hm
 | true=>
   have h1:0≤m∧m<8:=by simpa [isN] using hm
   obtain⟨n,rfl⟩:∃n:Nat,m=n:=⟨m.toNat,by omega⟩
   have hn:n<8:=by omega
   rw [if_pos rfl]
   simp only [Int.toNat_natCast]
   by_cases hx:r.x=(n:Int)
   · by_cases ho:r.ow=(n:Int)
     · exact rrelN_11 r ln b L n c w h hn hx ho
     · exact rrelN_10 r ln b L n c w h hn hx ho
   · by_cases ho:r.ow=(n:Int)
     · exact rrelN_01 r ln b L n c w h hn hx ho
     · exact rrelN_00 r ln b L n c w h hn hx ho
end Go.Proofs.Ytbigongmlpoahaa
