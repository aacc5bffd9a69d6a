import Derived.Test.YtbigongmlpoahaaUKx
import Derived.Test.YtbigongmlpoahaaURd
namespace Go.Proofs.Ytbigongmlpoahaa
set_option maxHeartbeats 2000000
set_option maxRecDepth 100000
set_option linter.unusedSimpArgs false
open Go.RowKit
theorem Grw.elder {w w1:World} {v u:Value} (h:Grw w1 v u) (hs:w.heap.size≤w1.heap.size):Grw w v u:=⟨fun k hk=>by rcases h.own k hk with h1 | h1;exact .inl h1;exact .inr (by omega),fun k hk=>by rcases h.spare k hk with h1 | h1;exact .inl h1;exact .inr (by omega)⟩
theorem rwant_a (r:Rk) (ln:Value) (b:Nat) (L:List Wi) (m md:Int) (w:World) (h:Rs w b ln r L) (hk:md=1):Calls Try.prog 27 #[P0 b,.int .i64 m,.int .i64 md] w (RC b ln w (rwishI r L m 1)):=by
 have H:=hide h
 have M:=hide (Mm.one h.blk)
 clear h
 subst hk
 go_enter Try.func27,Try.ntmps27
 go_wp2_with (first |(refine wpBuildP (by rfl) #[(0,.tmp 11),(1,.const (.int .i64 1))] (by rfl) #[(0,.int .i64 m),(1,.int .i64 1)] (by kernel_rfl) [.int .i64 m,.int .i64 1] (bw _ m 1) ?_;refine Stp.go ?_))
 constructor
 go_wp2_with (first |(go_at_call 28;refine(rwish33 r ln b L m 1 _ (unhide H) (by decide)).mono ?_;rintro e W90 ⟨v,ln2,rfl,N9,B9,R9,K9,S9⟩;have HN:=hide (N9.elder (w:=w) (unhide M).kept.size);have HB9:=hide B9;have HR9:=hide R9;have HK9:Hid (Kept (b::spare ln) w W90):=((unhide M).kept.mono (by simp)).trans K9;have HS9:Hid (Grw w ln ln2):=S9.elder (unhide M).kept.size;clear N9 B9 R9 K9 S9;refine Stp.go ?_))
 constructor
 go_wp2_with fail
 go_ret
 exact⟨v,ln2,rfl,unhide HN,unhide HB9,unhide HR9,unhide HK9,unhide HS9⟩
theorem rwant_b (r:Rk) (ln:Value) (b:Nat) (L:List Wi) (m md:Int) (w:World) (h:Rs w b ln r L) (hk:md=2):Calls Try.prog 27 #[P0 b,.int .i64 m,.int .i64 md] w (RC b ln w (rwishI r L m 2)):=by
 have H:=hide h
 have M:=hide (Mm.one h.blk)
 clear h
 subst hk
 go_enter Try.func27,Try.ntmps27
 go_wp2_with (first |(refine wpBuildP (by rfl) #[(0,.tmp 17),(1,.const (.int .i64 2))] (by rfl) #[(0,.int .i64 m),(1,.int .i64 2)] (by kernel_rfl) [.int .i64 m,.int .i64 2] (bw _ m 2) ?_;refine Stp.go ?_))
 constructor
 go_wp2_with (first |(go_at_call 28;refine(rwish33 r ln b L m 2 _ (unhide H) (by decide)).mono ?_;rintro e W90 ⟨v,ln2,rfl,N9,B9,R9,K9,S9⟩;have HN:=hide (N9.elder (w:=w) (unhide M).kept.size);have HB9:=hide B9;have HR9:=hide R9;have HK9:Hid (Kept (b::spare ln) w W90):=((unhide M).kept.mono (by simp)).trans K9;have HS9:Hid (Grw w ln ln2):=S9.elder (unhide M).kept.size;clear N9 B9 R9 K9 S9;refine Stp.go ?_))
 constructor
 go_wp2_with fail
 go_ret
 exact⟨v,ln2,rfl,unhide HN,unhide HB9,unhide HR9,unhide HK9,unhide HS9⟩
theorem rwant_c (r:Rk) (ln:Value) (b:Nat) (L:List Wi) (m md:Int) (w:World) (h:Rs w b ln r L) (h1:¬md=1) (h2:¬md=2):Calls Try.prog 27 #[P0 b,.int .i64 m,.int .i64 md] w (RC b ln w ((r,L,[]))):=by
 have H:=hide h
 have M:=hide (Mm.one h.blk)
 clear h
 have h1a:decide (md=1)=false:=nef_a h1
 have h1b:(md == 1)=false:=nef_b h1
 have h1c:(md !=1)=true:=nef_c h1
 have h2a:decide (md=2)=false:=nef_a h2
 have h2b:(md == 2)=false:=nef_b h2
 have h2c:(md !=2)=true:=nef_c h2
 go_enter Try.func27,Try.ntmps27
 go_wp2_with fail
 go_ret
 exact RC.none (unhide H).blk (unhide H).row (unhide M).kept ((unhide M).at 0 _ rfl)
theorem rwant32 (r:Rk) (ln:Value) (b:Nat) (L:List Wi) (m md:Int) (w:World) (h:Rs w b ln r L):Calls Try.prog 27 #[P0 b,.int .i64 m,.int .i64 md] w (RC b ln w (rwantP r L m md)):=by
 unfold rwantP
 by_cases h1:md=1
 · rw [if_pos h1];exact rwant_a r ln b L m md w h h1
 · rw [if_neg h1]
   by_cases h2:md=2
   · rw [if_pos h2];exact rwant_b r ln b L m md w h h2
   · rw [if_neg h2];exact rwant_c r ln b L m md w h h1 h2
def Rk.aw (r:Rk) (n:Nat):Rk:= { r with gn:=upd r.gn n false,sh:=upd r.sh n false,ops:=upd r.ops n 0 }
def raway (r:Rk) (L:List Wi) (n:Nat):Rk×List Wi×List Od:=if emp (r.aw n).gn then rbegP (r.aw n) L else (r.aw n,L,[])
theorem aw_ok {r:Rk} (h:r.Ok) (n:Nat):(r.aw n).Ok:=⟨h.x,h.ow,h.su,h.hn⟩
theorem raway_a (r:Rk) (ln:Value) (b:Nat) (L:List Wi) (n:Nat) (w:World) (h:Rs w b ln r L) (hn:n<8) (he:emp (r.aw n).gn=true):Calls Try.prog 63 #[P0 b,.int .i64 n] w (RC b ln w (rbegP (r.aw n) L)):=by
 have H:=hide h
 have M:=hide (Mm.one h.blk)
 have HE:=hide he
 have hnI:(n:Int)<8:=by omega
 clear h he
 go_enter Try.func63,Try.ntmps63
 go_wp2_with (first |(refine wpSt1 size4 rfl (.tmp 9) (.const (.bool false)) rfl rfl b (30+n) 0 (.bool false) (⟨rfl,rfl⟩) rfl rfl (unhide M) rfl (by show 30+n<40;omega) (Rk.gn_set r ln n hn false) ?_;intro W1 N1;replace M:Hid (Mm [b] w W1 [(b,80,({ r with gn:=upd r.gn n false } :Rk).C ln)]):=hide N1;clear N1;refine Stp.go ?_))
 constructor
 go_wp2_with (first |(refine wpSt1 size4 rfl (.tmp 14) (.const (.bool false)) rfl rfl b (2+n) 0 (.bool false) (⟨rfl,rfl⟩) rfl rfl (unhide M) rfl (by show 2+n<40;omega) (Rk.sh_set _ ln n hn false) ?_;intro W2 N2;replace M:Hid (Mm [b] w W2 [(b,80,({ r with gn:=upd r.gn n false,sh:=upd r.sh n false } :Rk).C ln)]):=hide N2;clear N2;refine Stp.go ?_))
 constructor
 go_wp2_with (first |(refine wpSt1 size2 rfl (.tmp 19) (.const (.int .i64 0)) rfl rfl b (18+n) 0 (.int .i64 0) (⟨rfl,rfl⟩) rfl rfl (unhide M) rfl (by show 18+n<40;omega) (Rk.ops_set _ ln n hn 0) ?_;intro W3 N3;replace M:Hid (Mm [b] w W3 [(b,80,(r.aw n).C ln)]):=hide N3;clear N3;refine Stp.go ?_))
 constructor
 go_wp2_with (first |(refine wpLoadA row45 rfl (.tmp 22) rfl b (30) rfl (b8 (r.aw n).gn) rfl (Blk.rgnA ((unhide M).at 0 _ rfl)) ?_;refine Stp.go ?_))
 constructor
 go_wp2_with (first |(refine wpBuildZ (T:=78) (b8 no8) build45 rfl rfl ?_;refine Stp.go ?_))
 constructor
 go_wp2_with (first |(refine wpNeqA 78 78 guard45 (.tmp 23) (.tmp 24) rfl rfl (b8 (r.aw n).gn) (b8 no8) rfl rfl true ((eqA45 _ _ _).trans (by have h9:=unhide HE;unfold emp at h9;rw [h9])) ?_;refine Stp.go ?_))
 constructor
 go_wp2_with (first |(go_at_call 64;refine(rbegin64 L (r.aw n) ln b _ ((unhide M).at 0 _ rfl) ((unhide H).row1 (unhide M).kept) (aw_ok (unhide H).ok n) (unhide H).all (by have:=(unhide H).len;omega) (unhide H).op0 (by show r.op+L.length≤1000000;have:=(unhide H).op1;omega)).mono ?_;rintro e W90 ⟨v,ln2,rfl,N9,B9,R9,K9,S9⟩;have HN:=hide (N9.elder (w:=w) (unhide M).kept.size);have HB9:=hide B9;have HR9:=hide R9;have HK9:Hid (Kept (b::spare ln) w W90):=((unhide M).kept.mono (by simp)).trans K9;have HS9:Hid (Grw w ln ln2):=S9.elder (unhide M).kept.size;clear N9 B9 R9 K9 S9;refine Stp.go ?_))
 constructor
 go_wp2_with fail
 go_ret
 exact⟨v,ln2,rfl,unhide HN,unhide HB9,unhide HR9,unhide HK9,unhide HS9⟩
theorem raway_b (r:Rk) (ln:Value) (b:Nat) (L:List Wi) (n:Nat) (w:World) (h:Rs w b ln r L) (hn:n<8) (he:emp (r.aw n).gn=false):Calls Try.prog 63 #[P0 b,.int .i64 n] w (RC b ln w (r.aw n,L,[])):=by
 have H:=hide h
 have M:=hide (Mm.one h.blk)
 have HE:=hide he
 have hnI:(n:Int)<8:=by omega
 clear h he
 go_enter Try.func63,Try.ntmps63
 go_wp2_with (first |(refine wpSt1 size4 rfl (.tmp 9) (.const (.bool false)) rfl rfl b (30+n) 0 (.bool false) (⟨rfl,rfl⟩) rfl rfl (unhide M) rfl (by show 30+n<40;omega) (Rk.gn_set r ln n hn false) ?_;intro W1 N1;replace M:Hid (Mm [b] w W1 [(b,80,({ r with gn:=upd r.gn n false } :Rk).C ln)]):=hide N1;clear N1;refine Stp.go ?_))
 constructor
 go_wp2_with (first |(refine wpSt1 size4 rfl (.tmp 14) (.const (.bool false)) rfl rfl b (2+n) 0 (.bool false) (⟨rfl,rfl⟩) rfl rfl (unhide M) rfl (by show 2+n<40;omega) (Rk.sh_set _ ln n hn false) ?_;intro W2 N2;replace M:Hid (Mm [b] w W2 [(b,80,({ r with gn:=upd r.gn n false,sh:=upd r.sh n false } :Rk).C ln)]):=hide N2;clear N2;refine Stp.go ?_))
 constructor
 go_wp2_with (first |(refine wpSt1 size2 rfl (.tmp 19) (.const (.int .i64 0)) rfl rfl b (18+n) 0 (.int .i64 0) (⟨rfl,rfl⟩) rfl rfl (unhide M) rfl (by show 18+n<40;omega) (Rk.ops_set _ ln n hn 0) ?_;intro W3 N3;replace M:Hid (Mm [b] w W3 [(b,80,(r.aw n).C ln)]):=hide N3;clear N3;refine Stp.go ?_))
 constructor
 go_wp2_with (first |(refine wpLoadA row45 rfl (.tmp 22) rfl b (30) rfl (b8 (r.aw n).gn) rfl (Blk.rgnA ((unhide M).at 0 _ rfl)) ?_;refine Stp.go ?_))
 constructor
 go_wp2_with (first |(refine wpBuildZ (T:=78) (b8 no8) build45 rfl rfl ?_;refine Stp.go ?_))
 constructor
 go_wp2_with (first |(refine wpNeqA 78 78 guard45 (.tmp 23) (.tmp 24) rfl rfl (b8 (r.aw n).gn) (b8 no8) rfl rfl false ((eqA45 _ _ _).trans (by have h9:=unhide HE;unfold emp at h9;rw [h9])) ?_;refine Stp.go ?_))
 constructor
 go_wp2_with fail
 go_ret
 exact RR.rc (r:=(r.aw n,[])) ⟨_,rfl,New.nil _ _ _ _,(unhide M).at 0 _ rfl,(unhide M).kept⟩ (unhide H).blk (unhide H).row
theorem raway63 (r:Rk) (ln:Value) (b:Nat) (L:List Wi) (n:Nat) (w:World) (h:Rs w b ln r L) (hn:n<8):Calls Try.prog 63 #[P0 b,.int .i64 n] w (RC b ln w (raway r L n)):=by
 unfold raway
 cases he:emp (r.aw n).gn with
 | true=>exact raway_a r ln b L n w h hn he
 | false=>exact raway_b r ln b L n w h hn he
def rwentP (r:Rk) (L:List Wi) (m c:Int):Rk×List Wi×List Od:=if isN m=true∧r.wt=1∧c=r.op∧r.gn m.toNat=true then raway r L m.toNat else (r,L,[])
theorem rwent_a (r:Rk) (ln:Value) (b:Nat) (L:List Wi) (m c:Int) (w:World) (h:Rs w b ln r L) (hm:isN m=false):Calls Try.prog 29 #[P0 b,.int .i64 m,.int .i64 c] w (RC b ln w (r,L,[])):=by
 have H:=hide h
 have M:=hide (Mm.one h.blk)
 have P47:∀W,Hid (Calls Try.prog 26 #[.int .i64 m] W fun e w'=>e= .returned (.bool false)∧w'=W):=fun W=>hide (by have h9:=in47 m W;rw [show isN m=false by exact hm] at h9;exact h9)
 clear h hm
 go_enter Try.func29,Try.ntmps29
 go_wp2_with (first |(go_at_call 26;refine(unhide (P47 _)).mono ?_;rintro e W11 ⟨rfl,q11⟩;replace q11:=q11.symm;subst q11;refine Stp.go ?_))
 constructor
 go_wp2_with fail
 go_ret
 exact RC.none (unhide H).blk (unhide H).row (unhide M).kept ((unhide M).at 0 _ rfl)
theorem rwent_b (r:Rk) (ln:Value) (b:Nat) (L:List Wi) (n:Nat) (c:Int) (w:World) (h:Rs w b ln r L) (hn:n<8) (hw:¬r.wt=1):Calls Try.prog 29 #[P0 b,.int .i64 n,.int .i64 c] w (RC b ln w (r,L,[])):=by
 have H:=hide h
 have M:=hide (Mm.one h.blk)
 have hnI:(n:Int)<8:=by omega
 have P47:=t47 (n:=n) (by omega)
 have c29:=fits_cell h.blk 29 _ rfl
 have c39:=fits_cell h.blk 39 _ rfl
 have hwa:decide (r.wt=1)=false:=nef_a hw
 have hwb:(r.wt == 1)=false:=nef_b hw
 have hwc:(r.wt !=1)=true:=nef_c hw
 clear h
 go_enter Try.func29,Try.ntmps29
 go_wp2_with (first |(go_at_call 26;refine(unhide (P47 _)).mono ?_;rintro e W11 ⟨rfl,q11⟩;replace q11:=q11.symm;subst q11;refine Stp.go ?_))
 constructor
 go_wp2_with fail
 go_ret
 exact RC.none (unhide H).blk (unhide H).row (unhide M).kept ((unhide M).at 0 _ rfl)
theorem rwent_c (r:Rk) (ln:Value) (b:Nat) (L:List Wi) (n:Nat) (c:Int) (w:World) (h:Rs w b ln r L) (hn:n<8) (hw:r.wt=1) (hc:¬c=r.op):Calls Try.prog 29 #[P0 b,.int .i64 n,.int .i64 c] w (RC b ln w (r,L,[])):=by
 have H:=hide h
 have M:=hide (Mm.one h.blk)
 have hnI:(n:Int)<8:=by omega
 have P47:=t47 (n:=n) (by omega)
 have c29:=fits_cell h.blk 29 _ rfl
 have c39:=fits_cell h.blk 39 _ rfl
 rw [hw] at c29
 clear hw
 have hca:decide (c=r.op)=false:=nef_a hc
 have hcb:(c == r.op)=false:=nef_b hc
 have hcc:(c !=r.op)=true:=nef_c hc
 clear h
 go_enter Try.func29,Try.ntmps29
 go_wp2_with (first |(go_at_call 26;refine(unhide (P47 _)).mono ?_;rintro e W11 ⟨rfl,q11⟩;replace q11:=q11.symm;subst q11;refine Stp.go ?_))
 constructor
 go_wp2_with fail
 go_ret
 exact RC.none (unhide H).blk (unhide H).row (unhide M).kept ((unhide M).at 0 _ rfl)
theorem rwent_d (r:Rk) (ln:Value) (b:Nat) (L:List Wi) (n:Nat) (w:World) (h:Rs w b ln r L) (hn:n<8) (hw:r.wt=1) (hg:r.gn n=false):Calls Try.prog 29 #[P0 b,.int .i64 n,.int .i64 r.op] w (RC b ln w (r,L,[])):=by
 have H:=hide h
 have M:=hide (Mm.one h.blk)
 have hnI:(n:Int)<8:=by omega
 have P47:=t47 (n:=n) (by omega)
 have c29:=fits_cell h.blk 29 _ rfl
 have c39:=fits_cell h.blk 39 _ rfl
 rw [hw] at c29
 clear hw
 have cg:=h.blk.rgn hn
 rw [hg] at cg
 clear hg
 clear h
 go_enter Try.func29,Try.ntmps29
 go_wp2_with (first |(go_at_call 26;refine(unhide (P47 _)).mono ?_;rintro e W11 ⟨rfl,q11⟩;replace q11:=q11.symm;subst q11;refine Stp.go ?_))
 constructor
 go_wp2_with fail
 go_ret
 exact RC.none (unhide H).blk (unhide H).row (unhide M).kept ((unhide M).at 0 _ rfl)
theorem rwent_e (r:Rk) (ln:Value) (b:Nat) (L:List Wi) (n:Nat) (w:World) (h:Rs w b ln r L) (hn:n<8) (hw:r.wt=1) (hg:r.gn n=true):Calls Try.prog 29 #[P0 b,.int .i64 n,.int .i64 r.op] w (RC b ln w (raway r L n)):=by
 have H:=hide h
 have M:=hide (Mm.one h.blk)
 have hnI:(n:Int)<8:=by omega
 have P47:=t47 (n:=n) (by omega)
 have c29:=fits_cell h.blk 29 _ rfl
 have c39:=fits_cell h.blk 39 _ rfl
 rw [hw] at c29
 clear hw
 have cg:=h.blk.rgn hn
 rw [hg] at cg
 clear hg
 clear h
 go_enter Try.func29,Try.ntmps29
 go_wp2_with (first |(go_at_call 26;refine(unhide (P47 _)).mono ?_;rintro e W11 ⟨rfl,q11⟩;replace q11:=q11.symm;subst q11;refine Stp.go ?_))
 constructor
 go_wp2_with (first |(go_at_call 63;refine(raway63 r ln b L n _ (unhide H) hn).mono ?_;rintro e W90 ⟨v,ln2,rfl,N9,B9,R9,K9,S9⟩;have HN:=hide (N9.elder (w:=w) (unhide M).kept.size);have HB9:=hide B9;have HR9:=hide R9;have HK9:Hid (Kept (b::spare ln) w W90):=((unhide M).kept.mono (by simp)).trans K9;have HS9:Hid (Grw w ln ln2):=S9.elder (unhide M).kept.size;clear N9 B9 R9 K9 S9 cg c29 c39;refine Stp.go ?_))
 constructor
 go_wp2_with fail
 go_ret
 exact⟨v,ln2,rfl,unhide HN,unhide HB9,unhide HR9,unhide HK9,unhide HS9⟩
theorem rwent34 (r:Rk) (ln:Value) (b:Nat) (L:List Wi) (m c:Int) (w:World) (h:Rs w b ln r L):Calls Try.prog 29 #[P0 b,.int .i64 m,.int .i64 c] w (RC b ln w (rwentP r L m c)):=by
 unfold rwentP
 cases hm:isN m with
 | false=>rw [if_neg (by simp)];exact rwent_a r ln b L m c w h hm
 | true=>
   have h1:0≤m∧m<8:=by simpa [isN] using hm
   obtain⟨n,rfl⟩:∃n:Nat,m=n:=⟨m.toNat,by omega⟩
   have hn:n<8:=by omega
   simp only [Int.toNat_natCast]
   by_cases hw:r.wt=1
   · by_cases hc:c=r.op
     · subst hc
       cases hg:r.gn n with
       | true=>rw [if_pos (by simp [hw])];exact rwent_e r ln b L n w h hn hw hg
       | false=>rw [if_neg (by simp)];exact rwent_d r ln b L n w h hn hw hg
     · rw [if_neg (by simp [hc])];exact rwent_c r ln b L n c w h hn hw hc
   · rw [if_neg (by simp [hw])];exact rwent_b r ln b L n c w h hn hw
def Rk.sup1 (r:Rk) (m:Nat):Rk:= { r with sh:=upd r.sh m true,ops:=upd r.ops m r.op,x:= -1 }
def Rk.put1 (r:Rk) (n:Nat):Rk:= { r with sh:=upd r.sh n true,ops:=upd r.ops n r.op }
def Rk.gotSh (r:Rk):Rk:=if 0≤r.su∧(r.x=r.su∨r.sh r.su.toNat=true) then (r.sup1 r.su.toNat).put1 r.hn else r.put1 r.hn
def Rk.alone (r:Rk):Rk:= { r with sh:=no8,ops:=upd ze8 r.hn r.op,x:=r.hn,ow:=r.hn }
def Rk.gotEx (r:Rk):Rk:=if 0≤r.su∧r.su=r.ow then (r.setPa r.su.toNat true).alone else r.alone
def rgotP (r:Rk) (L:List Wi) (m c:Int):Rk×List Wi×List Od:=if isN m=true∧r.wt=2∧c=r.op∧m=(r.hn:Int) then (if r.hk=1 then rdone r.gotSh L else rdone r.gotEx L) else (r,L,[])
theorem rgot_a (r:Rk) (ln:Value) (b:Nat) (L:List Wi) (m c:Int) (w:World) (h:Rs w b ln r L) (hm:isN m=false):Calls Try.prog 30 #[P0 b,.int .i64 m,.int .i64 c] w (RC b ln w (r,L,[])):=by
 have H:=hide h
 have M:=hide (Mm.one h.blk)
 have P47:∀W,Hid (Calls Try.prog 26 #[.int .i64 m] W fun e w'=>e= .returned (.bool false)∧w'=W):=fun W=>hide (by have h9:=in47 m W;rw [show isN m=false by exact hm] at h9;exact h9)
 clear h hm
 go_enter Try.func30,Try.ntmps30
 go_wp2_with (first |(go_at_call 26;refine(unhide (P47 _)).mono ?_;rintro e W11 ⟨rfl,q11⟩;replace q11:=q11.symm;subst q11;refine Stp.go ?_))
 constructor
 go_wp2_with fail
 go_ret
 exact RC.none (unhide H).blk (unhide H).row (unhide M).kept ((unhide M).at 0 _ rfl)
theorem rgot_b (r:Rk) (ln:Value) (b:Nat) (L:List Wi) (n:Nat) (c:Int) (w:World) (h:Rs w b ln r L) (hn:n<8) (hw:¬r.wt=2):Calls Try.prog 30 #[P0 b,.int .i64 n,.int .i64 c] w (RC b ln w (r,L,[])):=by
 have H:=hide h
 have M:=hide (Mm.one h.blk)
 have P47:=t47 (n:=n) (by omega)
 have c29:=fits_cell h.blk 29 _ rfl
 have c39:=fits_cell h.blk 39 _ rfl
 have c27:=fits_cell h.blk 27 _ rfl
 have hwa:decide (r.wt=2)=false:=nef_a hw
 have hwb:(r.wt == 2)=false:=nef_b hw
 have hwc:(r.wt !=2)=true:=nef_c hw
 clear h
 go_enter Try.func30,Try.ntmps30
 go_wp2_with (first |(go_at_call 26;refine(unhide (P47 _)).mono ?_;rintro e W11 ⟨rfl,q11⟩;replace q11:=q11.symm;subst q11;refine Stp.go ?_))
 constructor
 go_wp2_with fail
 go_ret
 exact RC.none (unhide H).blk (unhide H).row (unhide M).kept ((unhide M).at 0 _ rfl)
theorem rgot_c (r:Rk) (ln:Value) (b:Nat) (L:List Wi) (n:Nat) (c:Int) (w:World) (h:Rs w b ln r L) (hn:n<8) (hw:r.wt=2) (hc:¬c=r.op):Calls Try.prog 30 #[P0 b,.int .i64 n,.int .i64 c] w (RC b ln w (r,L,[])):=by
 have H:=hide h
 have M:=hide (Mm.one h.blk)
 have P47:=t47 (n:=n) (by omega)
 have c29:=fits_cell h.blk 29 _ rfl
 have c39:=fits_cell h.blk 39 _ rfl
 have c27:=fits_cell h.blk 27 _ rfl
 rw [hw] at c29
 clear hw
 have hca:decide (c=r.op)=false:=nef_a hc
 have hcb:(c == r.op)=false:=nef_b hc
 have hcc:(c !=r.op)=true:=nef_c hc
 clear h
 go_enter Try.func30,Try.ntmps30
 go_wp2_with (first |(go_at_call 26;refine(unhide (P47 _)).mono ?_;rintro e W11 ⟨rfl,q11⟩;replace q11:=q11.symm;subst q11;refine Stp.go ?_))
 constructor
 go_wp2_with fail
 go_ret
 exact RC.none (unhide H).blk (unhide H).row (unhide M).kept ((unhide M).at 0 _ rfl)
theorem rgot_d (r:Rk) (ln:Value) (b:Nat) (L:List Wi) (n:Nat) (w:World) (h:Rs w b ln r L) (hn:n<8) (hw:r.wt=2) (hq:¬(n:Int)=(r.hn:Int)):Calls Try.prog 30 #[P0 b,.int .i64 n,.int .i64 r.op] w (RC b ln w (r,L,[])):=by
 have H:=hide h
 have M:=hide (Mm.one h.blk)
 have P47:=t47 (n:=n) (by omega)
 have c29:=fits_cell h.blk 29 _ rfl
 have c39:=fits_cell h.blk 39 _ rfl
 have c27:=fits_cell h.blk 27 _ rfl
 rw [hw] at c29
 clear hw
 have hqa:decide ((n:Int)=(r.hn:Int))=false:=nef_a hq
 have hqb:((n:Int) == (r.hn:Int))=false:=nef_b hq
 have hqc:((n:Int) !=(r.hn:Int))=true:=nef_c hq
 clear h
 go_enter Try.func30,Try.ntmps30
 go_wp2_with (first |(go_at_call 26;refine(unhide (P47 _)).mono ?_;rintro e W11 ⟨rfl,q11⟩;replace q11:=q11.symm;subst q11;refine Stp.go ?_))
 constructor
 go_wp2_with fail
 go_ret
 exact RC.none (unhide H).blk (unhide H).row (unhide M).kept ((unhide M).at 0 _ rfl)
theorem gotOk1 {r:Rk} (h:r.Ok):(r.put1 r.hn).Ok:=⟨h.x,h.ow,h.su,h.hn⟩
theorem gotOk2 {r:Rk} (h:r.Ok) (m:Nat):((r.sup1 m).put1 r.hn).Ok:=⟨by simp [Rk.put1,Rk.sup1],h.ow,h.su,h.hn⟩
theorem gotOk3 {r:Rk} (h:r.Ok):r.alone.Ok:=by
 have:=h.hn
 exact⟨by simp [Rk.alone];omega,by simp [Rk.alone];omega,h.su,h.hn⟩
theorem gotOk4 {r:Rk} (h:r.Ok) (m:Nat):(r.setPa m true).alone.Ok:=by
 have:=h.hn
 exact⟨by simp [Rk.alone,Rk.setPa];omega,by simp [Rk.alone,Rk.setPa];omega,h.su,h.hn⟩
theorem rgot_s1 (r:Rk) (ln:Value) (b:Nat) (L:List Wi) (w:World) (h:Rs w b ln r L) (hw:r.wt=2) (hk:  r.hk=1) (hu:r.su= -1):Calls Try.prog 30 #[P0 b,.int .i64 r.hn,.int .i64 r.op] w (RC b ln w (rdone (r.put1 r.hn) L)):=by
 have H:=hide h
 have M:=hide (Mm.one h.blk)
 have hh:=h.ok.hn
 have hhI:(r.hn:Int)<8:=by omega
 have P47:=t47 (n:=r.hn) (by omega)
 have c29:=fits_cell h.blk 29 _ rfl
 have c39:=fits_cell h.blk 39 _ rfl
 have c27:=fits_cell h.blk 27 _ rfl
 have c28:=fits_cell h.blk 28 _ rfl
 rw [hw] at c29
 clear hw
 rw [hk] at c28
 clear hk
 have c38:=fits_cell h.blk 38 _ rfl
 rw [hu] at c38
 have HU:=hide hu
 clear hu
 clear h
 go_enter Try.func30,Try.ntmps30
 go_wp2_with (first |(go_at_call 26;refine(unhide (P47 _)).mono ?_;rintro e W11 ⟨rfl,q11⟩;replace q11:=q11.symm;subst q11;refine Stp.go ?_))
 constructor
 go_wp2_with (first |(refine wpSt1 size4 rfl (.tmp 81) (.const (.bool true)) rfl rfl b (2+r.hn) 0 (.bool true) (⟨rfl,rfl⟩) rfl rfl (unhide M) rfl (by show 2+r.hn<40;omega) (Rk.sh_set _ ln r.hn hh true) ?_;intro W12 N12;replace M:Hid (Mm [b] w W12 [(b,80,({ r with sh:=upd r.sh r.hn true } :Rk).C ln)]):=hide N12;clear N12;clear c27 c28 c29 c39 c38;refine Stp.go ?_))
 constructor
 go_wp2_with (first |(refine wpSt1 size2 rfl (.tmp 87) (.tmp 84) rfl rfl b (18+r.hn) 0 (.int .i64 r.op) (⟨rfl,rfl⟩) rfl rfl (unhide M) rfl (by show 18+r.hn<40;omega) (Rk.ops_set _ ln r.hn hh r.op) ?_;intro W13 N13;replace M:Hid (Mm [b] w W13 [(b,80,(r.put1 r.hn).C ln)]):=hide N13;clear N13;refine Stp.go ?_))
 constructor
 go_wp2_with (first |(go_at_call 62;refine(rdone62 L (r.put1 r.hn) ln b _ ((unhide M).at 0 _ rfl) ((unhide H).row1 (unhide M).kept) (gotOk1 (unhide H).ok) (unhide H).all (by have:=(unhide H).len;omega) (unhide H).op0 (by show r.op+L.length≤1000000;have:=(unhide H).op1;omega)).mono ?_;rintro e W90 ⟨v,ln2,rfl,N9,B9,R9,K9,S9⟩;have HN:=hide (N9.elder (w:=w) (unhide M).kept.size);have HB9:=hide B9;have HR9:=hide R9;have HK9:Hid (Kept (b::spare ln) w W90):=((unhide M).kept.mono (by simp)).trans K9;have HS9:Hid (Grw w ln ln2):=S9.elder (unhide M).kept.size;clear N9 B9 R9 K9 S9;refine Stp.go ?_))
 constructor
 go_wp2_with fail
 go_ret
 exact⟨v,ln2,rfl,unhide HN,unhide HB9,unhide HR9,unhide HK9,unhide HS9⟩
theorem rgot_s2 (r:Rk) (ln:Value) (b:Nat) (L:List Wi) (w:World) (h:Rs w b ln r L) (hw:r.wt=2) (hk:  r.hk=1) (m:Nat) (hm:m<8) (hu:r.su=(m:Int)) (hx:r.x=(m:Int)):Calls Try.prog 30 #[P0 b,.int .i64 r.hn,.int .i64 r.op] w (RC b ln w (rdone ((r.sup1 m).put1 r.hn) L)):=by
 have H:=hide h
 have M:=hide (Mm.one h.blk)
 have hh:=h.ok.hn
 have hhI:(r.hn:Int)<8:=by omega
 have P47:=t47 (n:=r.hn) (by omega)
 have c29:=fits_cell h.blk 29 _ rfl
 have c39:=fits_cell h.blk 39 _ rfl
 have c27:=fits_cell h.blk 27 _ rfl
 have c28:=fits_cell h.blk 28 _ rfl
 rw [hw] at c29
 clear hw
 rw [hk] at c28
 clear hk
 have c38:=fits_cell h.blk 38 _ rfl
 rw [hu] at c38
 have HU:=hide hu
 clear hu
 have hm0:decide ((m:Int)≥0)=true:=by simp
 have hmI:(m:Int)<8:=by omega
 have c0:=fits_cell h.blk 0 _ rfl
 rw [hx] at c0
 have HX:=hide hx
 clear hx
 clear h
 go_enter Try.func30,Try.ntmps30
 go_wp2_with (first |(go_at_call 26;refine(unhide (P47 _)).mono ?_;rintro e W11 ⟨rfl,q11⟩;replace q11:=q11.symm;subst q11;refine Stp.go ?_))
 constructor
 go_wp2_with (first |(refine wpSt1 size4 rfl (.tmp 67) (.const (.bool true)) rfl rfl b (2+m) 0 (.bool true) (⟨rfl,rfl⟩) rfl rfl (unhide M) rfl (by show 2+m<40;omega) (Rk.sh_set r ln m hm true) ?_;intro W12 N12;replace M:Hid (Mm [b] w W12 [(b,80,({ r with sh:=upd r.sh m true } :Rk).C ln)]):=hide N12;clear N12;clear c27 c28 c29 c39 c38 c0;refine Stp.go ?_))
 constructor
 go_wp2_with (first |(refine wpSt1 size2 rfl (.tmp 73) (.tmp 70) rfl rfl b (18+m) 0 (.int .i64 r.op) (⟨rfl,rfl⟩) rfl rfl (unhide M) rfl (by show 18+m<40;omega) (Rk.ops_set _ ln m hm r.op) ?_;intro W13 N13;replace M:Hid (Mm [b] w W13 [(b,80,({ r with sh:=upd r.sh m true,ops:=upd r.ops m r.op } :Rk).C ln)]):=hide N13;clear N13;refine Stp.go ?_))
 constructor
 go_wp2_with (first |(refine wpSt1 size3 rfl (.tmp 76) (.const (.int .i64 (-1))) rfl rfl b (0) 0 (.int .i64 (-1)) (⟨rfl,rfl⟩) rfl rfl (unhide M) rfl (show 0+1≤_ from Nat.le_of_ble_eq_true rfl) (rfl) ?_;intro W14 N14;replace M:Hid (Mm [b] w W14 [(b,80,(r.sup1 m).C ln)]):=hide N14;clear N14;refine Stp.go ?_))
 constructor
 go_wp2_with (first |(refine wpSt1 size4 rfl (.tmp 81) (.const (.bool true)) rfl rfl b (2+r.hn) 0 (.bool true) (⟨rfl,rfl⟩) rfl rfl (unhide M) rfl (by show 2+r.hn<40;omega) (Rk.sh_set _ ln r.hn hh true) ?_;intro W15 N15;replace M:Hid (Mm [b] w W15 [(b,80,({ (r.sup1 m) with sh:=upd (r.sup1 m).sh r.hn true } :Rk).C ln)]):=hide N15;clear N15;refine Stp.go ?_))
 constructor
 go_wp2_with (first |(refine wpSt1 size2 rfl (.tmp 87) (.tmp 84) rfl rfl b (18+r.hn) 0 (.int .i64 r.op) (⟨rfl,rfl⟩) rfl rfl (unhide M) rfl (by show 18+r.hn<40;omega) (Rk.ops_set _ ln r.hn hh r.op) ?_;intro W16 N16;replace M:Hid (Mm [b] w W16 [(b,80,((r.sup1 m).put1 r.hn).C ln)]):=hide N16;clear N16;refine Stp.go ?_))
 constructor
 go_wp2_with (first |(go_at_call 62;refine(rdone62 L ((r.sup1 m).put1 r.hn) ln b _ ((unhide M).at 0 _ rfl) ((unhide H).row1 (unhide M).kept) (gotOk2 (unhide H).ok m) (unhide H).all (by have:=(unhide H).len;omega) (unhide H).op0 (by show r.op+L.length≤1000000;have:=(unhide H).op1;omega)).mono ?_;rintro e W90 ⟨v,ln2,rfl,N9,B9,R9,K9,S9⟩;have HN:=hide (N9.elder (w:=w) (unhide M).kept.size);have HB9:=hide B9;have HR9:=hide R9;have HK9:Hid (Kept (b::spare ln) w W90):=((unhide M).kept.mono (by simp)).trans K9;have HS9:Hid (Grw w ln ln2):=S9.elder (unhide M).kept.size;clear N9 B9 R9 K9 S9;refine Stp.go ?_))
 constructor
 go_wp2_with fail
 go_ret
 exact⟨v,ln2,rfl,unhide HN,unhide HB9,unhide HR9,unhide HK9,unhide HS9⟩
theorem rgot_s3 (r:Rk) (ln:Value) (b:Nat) (L:List Wi) (w:World) (h:Rs w b ln r L) (hw:r.wt=2) (hk:  r.hk=1) (m:Nat) (hm:m<8) (hu:r.su=(m:Int)) (hx:¬r.x=(m:Int)) (hs:r.sh m=true):Calls Try.prog 30 #[P0 b,.int .i64 r.hn,.int .i64 r.op] w (RC b ln w (rdone ((r.sup1 m).put1 r.hn) L)):=by
 have H:=hide h
 have M:=hide (Mm.one h.blk)
 have hh:=h.ok.hn
 have hhI:(r.hn:Int)<8:=by omega
 have P47:=t47 (n:=r.hn) (by omega)
 have c29:=fits_cell h.blk 29 _ rfl
 have c39:=fits_cell h.blk 39 _ rfl
 have c27:=fits_cell h.blk 27 _ rfl
 have c28:=fits_cell h.blk 28 _ rfl
 rw [hw] at c29
 clear hw
 rw [hk] at c28
 clear hk
 have c38:=fits_cell h.blk 38 _ rfl
 rw [hu] at c38
 have HU:=hide hu
 clear hu
 have hm0:decide ((m:Int)≥0)=true:=by simp
 have hmI:(m:Int)<8:=by omega
 have c0:=fits_cell h.blk 0 _ rfl
 have hxa:decide (r.x=(m:Int))=false:=nef_a hx
 have hxb:(r.x == (m:Int))=false:=nef_b hx
 have hxc:(r.x !=(m:Int))=true:=nef_c hx
 have cm:=h.blk.rsh hm
 rw [hs] at cm
 clear hs
 clear h
 go_enter Try.func30,Try.ntmps30
 go_wp2_with (first |(go_at_call 26;refine(unhide (P47 _)).mono ?_;rintro e W11 ⟨rfl,q11⟩;replace q11:=q11.symm;subst q11;refine Stp.go ?_))
 constructor
 go_wp2_with (first |(refine wpSt1 size4 rfl (.tmp 67) (.const (.bool true)) rfl rfl b (2+m) 0 (.bool true) (⟨rfl,rfl⟩) rfl rfl (unhide M) rfl (by show 2+m<40;omega) (Rk.sh_set r ln m hm true) ?_;intro W12 N12;replace M:Hid (Mm [b] w W12 [(b,80,({ r with sh:=upd r.sh m true } :Rk).C ln)]):=hide N12;clear N12;clear c27 c28 c29 c39 c38 c0 cm;refine Stp.go ?_))
 constructor
 go_wp2_with (first |(refine wpSt1 size2 rfl (.tmp 73) (.tmp 70) rfl rfl b (18+m) 0 (.int .i64 r.op) (⟨rfl,rfl⟩) rfl rfl (unhide M) rfl (by show 18+m<40;omega) (Rk.ops_set _ ln m hm r.op) ?_;intro W13 N13;replace M:Hid (Mm [b] w W13 [(b,80,({ r with sh:=upd r.sh m true,ops:=upd r.ops m r.op } :Rk).C ln)]):=hide N13;clear N13;refine Stp.go ?_))
 constructor
 go_wp2_with (first |(refine wpSt1 size3 rfl (.tmp 76) (.const (.int .i64 (-1))) rfl rfl b (0) 0 (.int .i64 (-1)) (⟨rfl,rfl⟩) rfl rfl (unhide M) rfl (show 0+1≤_ from Nat.le_of_ble_eq_true rfl) (rfl) ?_;intro W14 N14;replace M:Hid (Mm [b] w W14 [(b,80,(r.sup1 m).C ln)]):=hide N14;clear N14;refine Stp.go ?_))
 constructor
 go_wp2_with (first |(refine wpSt1 size4 rfl (.tmp 81) (.const (.bool true)) rfl rfl b (2+r.hn) 0 (.bool true) (⟨rfl,rfl⟩) rfl rfl (unhide M) rfl (by show 2+r.hn<40;omega) (Rk.sh_set _ ln r.hn hh true) ?_;intro W15 N15;replace M:Hid (Mm [b] w W15 [(b,80,({ (r.sup1 m) with sh:=upd (r.sup1 m).sh r.hn true } :Rk).C ln)]):=hide N15;clear N15;refine Stp.go ?_))
 constructor
 go_wp2_with (first |(refine wpSt1 size2 rfl (.tmp 87) (.tmp 84) rfl rfl b (18+r.hn) 0 (.int .i64 r.op) (⟨rfl,rfl⟩) rfl rfl (unhide M) rfl (by show 18+r.hn<40;omega) (Rk.ops_set _ ln r.hn hh r.op) ?_;intro W16 N16;replace M:Hid (Mm [b] w W16 [(b,80,((r.sup1 m).put1 r.hn).C ln)]):=hide N16;clear N16;refine Stp.go ?_))
 constructor
 go_wp2_with (first |(go_at_call 62;refine(rdone62 L ((r.sup1 m).put1 r.hn) ln b _ ((unhide M).at 0 _ rfl) ((unhide H).row1 (unhide M).kept) (gotOk2 (unhide H).ok m) (unhide H).all (by have:=(unhide H).len;omega) (unhide H).op0 (by show r.op+L.length≤1000000;have:=(unhide H).op1;omega)).mono ?_;rintro e W90 ⟨v,ln2,rfl,N9,B9,R9,K9,S9⟩;have HN:=hide (N9.elder (w:=w) (unhide M).kept.size);have HB9:=hide B9;have HR9:=hide R9;have HK9:Hid (Kept (b::spare ln) w W90):=((unhide M).kept.mono (by simp)).trans K9;have HS9:Hid (Grw w ln ln2):=S9.elder (unhide M).kept.size;clear N9 B9 R9 K9 S9;refine Stp.go ?_))
 constructor
 go_wp2_with fail
 go_ret
 exact⟨v,ln2,rfl,unhide HN,unhide HB9,unhide HR9,unhide HK9,unhide HS9⟩
theorem rgot_s4 (r:Rk) (ln:Value) (b:Nat) (L:List Wi) (w:World) (h:Rs w b ln r L) (hw:r.wt=2) (hk:  r.hk=1) (m:Nat) (hm:m<8) (hu:r.su=(m:Int)) (hx:¬r.x=(m:Int)) (hs:r.sh m=false):Calls Try.prog 30 #[P0 b,.int .i64 r.hn,.int .i64 r.op] w (RC b ln w (rdone (r.put1 r.hn) L)):=by
 have H:=hide h
 have M:=hide (Mm.one h.blk)
 have hh:=h.ok.hn
 have hhI:(r.hn:Int)<8:=by omega
 have P47:=t47 (n:=r.hn) (by omega)
 have c29:=fits_cell h.blk 29 _ rfl
 have c39:=fits_cell h.blk 39 _ rfl
 have c27:=fits_cell h.blk 27 _ rfl
 have c28:=fits_cell h.blk 28 _ rfl
 rw [hw] at c29
 clear hw
 rw [hk] at c28
 clear hk
 have c38:=fits_cell h.blk 38 _ rfl
 rw [hu] at c38
 have HU:=hide hu
 clear hu
 have hm0:decide ((m:Int)≥0)=true:=by simp
 have hmI:(m:Int)<8:=by omega
 have c0:=fits_cell h.blk 0 _ rfl
 have hxa:decide (r.x=(m:Int))=false:=nef_a hx
 have hxb:(r.x == (m:Int))=false:=nef_b hx
 have hxc:(r.x !=(m:Int))=true:=nef_c hx
 have cm:=h.blk.rsh hm
 rw [hs] at cm
 clear hs
 clear h
 go_enter Try.func30,Try.ntmps30
 go_wp2_with (first |(go_at_call 26;refine(unhide (P47 _)).mono ?_;rintro e W11 ⟨rfl,q11⟩;replace q11:=q11.symm;subst q11;refine Stp.go ?_))
 constructor
 go_wp2_with (first |(refine wpSt1 size4 rfl (.tmp 81) (.const (.bool true)) rfl rfl b (2+r.hn) 0 (.bool true) (⟨rfl,rfl⟩) rfl rfl (unhide M) rfl (by show 2+r.hn<40;omega) (Rk.sh_set _ ln r.hn hh true) ?_;intro W12 N12;replace M:Hid (Mm [b] w W12 [(b,80,({ r with sh:=upd r.sh r.hn true } :Rk).C ln)]):=hide N12;clear N12;clear c27 c28 c29 c39 c38 c0 cm;refine Stp.go ?_))
 constructor
 go_wp2_with (first |(refine wpSt1 size2 rfl (.tmp 87) (.tmp 84) rfl rfl b (18+r.hn) 0 (.int .i64 r.op) (⟨rfl,rfl⟩) rfl rfl (unhide M) rfl (by show 18+r.hn<40;omega) (Rk.ops_set _ ln r.hn hh r.op) ?_;intro W13 N13;replace M:Hid (Mm [b] w W13 [(b,80,(r.put1 r.hn).C ln)]):=hide N13;clear N13;refine Stp.go ?_))
 constructor
 go_wp2_with (first |(go_at_call 62;refine(rdone62 L (r.put1 r.hn) ln b _ ((unhide M).at 0 _ rfl) ((unhide H).row1 (unhide M).kept) (gotOk1 (unhide H).ok) (unhide H).all (by have:=(unhide H).len;omega) (unhide H).op0 (by show r.op+L.length≤1000000;have:=(unhide H).op1;omega)).mono ?_;rintro e W90 ⟨v,ln2,rfl,N9,B9,R9,K9,S9⟩;have HN:=hide (N9.elder (w:=w) (unhide M).kept.size);have HB9:=hide B9;have HR9:=hide R9;have HK9:Hid (Kept (b::spare ln) w W90):=((unhide M).kept.mono (by simp)).trans K9;have HS9:Hid (Grw w ln ln2):=S9.elder (unhide M).kept.size;clear N9 B9 R9 K9 S9;refine Stp.go ?_))
 constructor
 go_wp2_with fail
 go_ret
 exact⟨v,ln2,rfl,unhide HN,unhide HB9,unhide HR9,unhide HK9,unhide HS9⟩
theorem rgot_e1 (r:Rk) (ln:Value) (b:Nat) (L:List Wi) (w:World) (h:Rs w b ln r L) (hw:r.wt=2) (hk:¬r.hk=1) (hu:r.su= -1):Calls Try.prog 30 #[P0 b,.int .i64 r.hn,.int .i64 r.op] w (RC b ln w (rdone r.alone L)):=by
 have H:=hide h
 have M:=hide (Mm.one h.blk)
 have hh:=h.ok.hn
 have hhI:(r.hn:Int)<8:=by omega
 have P47:=t47 (n:=r.hn) (by omega)
 have c29:=fits_cell h.blk 29 _ rfl
 have c39:=fits_cell h.blk 39 _ rfl
 have c27:=fits_cell h.blk 27 _ rfl
 have c28:=fits_cell h.blk 28 _ rfl
 rw [hw] at c29
 clear hw
 have hka:decide (r.hk=1)=false:=nef_a hk
 have hkb:(r.hk == 1)=false:=nef_b hk
 have hkc:(r.hk !=1)=true:=nef_c hk
 clear h
 go_enter Try.func30,Try.ntmps30
 go_wp2_with (first |(go_at_call 26;refine(unhide (P47 _)).mono ?_;rintro e W11 ⟨rfl,q11⟩;replace q11:=q11.symm;subst q11;refine Stp.go ?_))
 constructor
 go_wp2_with fail
 clear c27 c28 c29 c39
 refine wp_region_any mixed (wpAny_tq 16 rfl (by kernel_rfl) [some (P0 b),some (P0 b),some (.pointer (some ⟨b,38,none⟩)),some (.int .i64 (-1)),some (.bool false),some (.bool false),none,none,none,none,none,none,none,none,none,some (.bool false)] rfl (by kernel_rfl) (by kernel_rfl) ?_ ?_)
 · intro i o' hi hsk ho a' w2 hout hin hk2
   replace hk2:Kept [] w w2:=ud hk2
   match i,ho,hsk with
   | 0,ho,hsk=>
     cases ho
     exact wp_move (.tmp 0) rfl _ ((ho9 hout 0).trans rfl) (tE rfl)
   | 1,ho,hsk=>
     cases ho
     exact o_nil (.tmp 90) rfl _ (is_tq (hi9 hin 0 90) rfl) (tE rfl)
   | 2,ho,hsk=>
     cases ho
     exact o_fld47_9 (.tmp 91) rfl b (0) (38) rfl (is_tq (hi9 hin 1 91) rfl) (tE rfl)
   | 3,ho,hsk=>
     cases ho
     exact o_load3 (.tmp 92) rfl _ _ (is_tq (hi9 hin 2 92) rfl) (by have h9:=fits_cell (((unhide M).step hk2).at 0 _ rfl) 38 _ rfl;rw [hu] at h9;exact h9) (tE rfl)
   | 4,ho,hsk=>
     cases ho
     exact c_geq3 (.tmp 93) (.const (.int .i64 (0))) rfl _ _ (false) (rfl) (is_tq (hi9 hin 3 93) rfl) rfl (tE rfl)
   | 5,ho,hsk=>
     cases ho
     exact wp_move (.tmp 94) rfl _ (is_tq (hi9 hin 4 94) rfl) (tE rfl)
   | 6,ho,hsk=>
     cases hsk
   | 7,ho,hsk=>
     cases hsk
   | 8,ho,hsk=>
     cases hsk
   | 9,ho,hsk=>
     cases hsk
   | 10,ho,hsk=>
     cases hsk
   | 11,ho,hsk=>
     cases hsk
   | 12,ho,hsk=>
     cases hsk
   | 13,ho,hsk=>
     cases hsk
   | 14,ho,hsk=>
     cases hsk
   | 15,ho,hsk=>
     cases ho
     exact o_pickN (.tmp 95) (.tmp 104) rfl (is_tq (hi9 hin 5 95) rfl) (tE rfl)
 intro w9 hk9
 replace hk9:Kept [] w w9:=ud hk9
 simp only [valsQ,List.map_cons,List.map_nil,Option.getD_some,Option.getD_none,List.take_succ_cons,List.take_zero,putAll,Act.put,List.setIfInBounds_toArray,List.set_cons_succ,List.set_cons_zero]
 refine wpAny_done (by kernel_rfl) ?_ _
 replace M:=hide ((unhide M).step hk9)
 clear hk9
 go_wp2_with (first |(refine wpBuildZ (T:=78) (b8 no8) build45 rfl rfl ?_;refine Stp.go ?_))
 constructor
 go_wp2_with (first |(refine wpStN row45 rfl (.tmp 117) (.tmp 115) rfl rfl b (2) 0 (b8 no8) rfl rfl rfl (b8_one _) (unhide M) rfl (Nat.le_of_ble_eq_true rfl) (fun W h=>h.rshP no8) ?_;intro W21 N21;replace M:Hid (Mm [b] w W21 [(b,80,({ r with sh:=no8 } :Rk).C ln)]):=hide N21;clear N21;refine Stp.go ?_))
 constructor
 go_wp2_with (first |(refine wpBuildZ (T:=34) (i8 ze8) build37 rfl rfl ?_;refine Stp.go ?_))
 constructor
 go_wp2_with (first |(refine wpStN row37 rfl (.tmp 121) (.tmp 119) rfl rfl b (18) 0 (i8 ze8) rfl rfl rfl (i8_one _) (unhide M) rfl (Nat.le_of_ble_eq_true rfl) (fun W h=>h.ropsP ze8) ?_;intro W22 N22;replace M:Hid (Mm [b] w W22 [(b,80,({ r with sh:=no8,ops:=ze8 } :Rk).C ln)]):=hide N22;clear N22;refine Stp.go ?_))
 constructor
 go_wp2_with (first |(refine wpSt1 size2 rfl (.tmp 127) (.tmp 124) rfl rfl b (18+r.hn) 0 (.int .i64 r.op) (⟨rfl,rfl⟩) rfl rfl (unhide M) rfl (by show 18+r.hn<40;omega) (Rk.ops_set _ ln r.hn hh r.op) ?_;intro W23 N23;replace M:Hid (Mm [b] w W23 [(b,80,({ r with sh:=no8,ops:=upd ze8 r.hn r.op } :Rk).C ln)]):=hide N23;clear N23;refine Stp.go ?_))
 constructor
 go_wp2_with (first |(refine wpSt1 size3 rfl (.tmp 131) (.tmp 129) rfl rfl b (0) 0 (.int .i64 (r.hn:Int)) (⟨rfl,rfl⟩) rfl rfl (unhide M) rfl (show 0+1≤_ from Nat.le_of_ble_eq_true rfl) (rfl) ?_;intro W24 N24;replace M:Hid (Mm [b] w W24 [(b,80,({ r with sh:=no8,ops:=upd ze8 r.hn r.op,x:=r.hn } :Rk).C ln)]):=hide N24;clear N24;refine Stp.go ?_))
 constructor
 go_wp2_with (first |(refine wpSt1 size3 rfl (.tmp 135) (.tmp 133) rfl rfl b (1) 0 (.int .i64 (r.hn:Int)) (⟨rfl,rfl⟩) rfl rfl (unhide M) rfl (show 1+1≤_ from Nat.le_of_ble_eq_true rfl) (rfl) ?_;intro W25 N25;replace M:Hid (Mm [b] w W25 [(b,80,r.alone.C ln)]):=hide N25;clear N25;refine Stp.go ?_))
 constructor
 go_wp2_with (first |(go_at_call 62;refine(rdone62 L r.alone ln b _ ((unhide M).at 0 _ rfl) ((unhide H).row1 (unhide M).kept) (gotOk3 (unhide H).ok) (unhide H).all (by have:=(unhide H).len;omega) (unhide H).op0 (by show r.op+L.length≤1000000;have:=(unhide H).op1;omega)).mono ?_;rintro e W90 ⟨v,ln2,rfl,N9,B9,R9,K9,S9⟩;have HN:=hide (N9.elder (w:=w) (unhide M).kept.size);have HB9:=hide B9;have HR9:=hide R9;have HK9:Hid (Kept (b::spare ln) w W90):=((unhide M).kept.mono (by simp)).trans K9;have HS9:Hid (Grw w ln ln2):=S9.elder (unhide M).kept.size;clear N9 B9 R9 K9 S9;refine Stp.go ?_))
 constructor
 go_wp2_with fail
 go_ret
 exact⟨v,ln2,rfl,unhide HN,unhide HB9,unhide HR9,unhide HK9,unhide HS9⟩
theorem rgot_e2 (r:Rk) (ln:Value) (b:Nat) (L:List Wi) (w:World) (h:Rs w b ln r L) (hw:r.wt=2) (hk:¬r.hk=1) (m:Nat) (_hm:m<8) (hu:r.su=(m:Int)) (how:¬r.ow=(m:Int)):Calls Try.prog 30 #[P0 b,.int .i64 r.hn,.int .i64 r.op] w (RC b ln w (rdone r.alone L)):=by
 have H:=hide h
 have M:=hide (Mm.one h.blk)
 have hh:=h.ok.hn
 have hhI:(r.hn:Int)<8:=by omega
 have P47:=t47 (n:=r.hn) (by omega)
 have c29:=fits_cell h.blk 29 _ rfl
 have c39:=fits_cell h.blk 39 _ rfl
 have c27:=fits_cell h.blk 27 _ rfl
 have c28:=fits_cell h.blk 28 _ rfl
 rw [hw] at c29
 clear hw
 have hka:decide (r.hk=1)=false:=nef_a hk
 have hkb:(r.hk == 1)=false:=nef_b hk
 have hkc:(r.hk !=1)=true:=nef_c hk
 clear h
 go_enter Try.func30,Try.ntmps30
 go_wp2_with (first |(go_at_call 26;refine(unhide (P47 _)).mono ?_;rintro e W11 ⟨rfl,q11⟩;replace q11:=q11.symm;subst q11;refine Stp.go ?_))
 constructor
 go_wp2_with fail
 clear c27 c28 c29 c39
 refine wp_region_any mixed (wpAny_tq 16 rfl (by kernel_rfl) [some (P0 b),some (P0 b),some (.pointer (some ⟨b,38,none⟩)),some (.int .i64 m),some (.bool true),some (.bool true),some (P0 b),some (P0 b),some (.pointer (some ⟨b,38,none⟩)),some (.int .i64 m),some (P0 b),some (P0 b),some (.pointer (some ⟨b,1,none⟩)),some (.int .i64 r.ow),some (.bool false),some (.bool false)] rfl (by kernel_rfl) (by kernel_rfl) ?_ ?_)
 · intro i o' hi hsk ho a' w2 hout hin hk2
   replace hk2:Kept [] w w2:=ud hk2
   match i,ho,hsk with
   | 0,ho,hsk=>
     cases ho
     exact wp_move (.tmp 0) rfl _ ((ho9 hout 0).trans rfl) (tE rfl)
   | 1,ho,hsk=>
     cases ho
     exact o_nil (.tmp 90) rfl _ (is_tq (hi9 hin 0 90) rfl) (tE rfl)
   | 2,ho,hsk=>
     cases ho
     exact o_fld47_9 (.tmp 91) rfl b (0) (38) rfl (is_tq (hi9 hin 1 91) rfl) (tE rfl)
   | 3,ho,hsk=>
     cases ho
     exact o_load3 (.tmp 92) rfl _ _ (is_tq (hi9 hin 2 92) rfl) (by have h9:=fits_cell (((unhide M).step hk2).at 0 _ rfl) 38 _ rfl;rw [hu] at h9;exact h9) (tE rfl)
   | 4,ho,hsk=>
     cases ho
     exact c_geq3 (.tmp 93) (.const (.int .i64 (0))) rfl _ _ (true) (by simp) (is_tq (hi9 hin 3 93) rfl) rfl (tE rfl)
   | 5,ho,hsk=>
     cases ho
     exact wp_move (.tmp 94) rfl _ (is_tq (hi9 hin 4 94) rfl) (tE rfl)
   | 6,ho,hsk=>
     cases ho
     exact wp_move (.tmp 0) rfl _ ((ho9 hout 0).trans rfl) (tE rfl)
   | 7,ho,hsk=>
     cases ho
     exact o_nil (.tmp 96) rfl _ (is_tq (hi9 hin 6 96) rfl) (tE rfl)
   | 8,ho,hsk=>
     cases ho
     exact o_fld47_9 (.tmp 97) rfl b (0) (38) rfl (is_tq (hi9 hin 7 97) rfl) (tE rfl)
   | 9,ho,hsk=>
     cases ho
     exact o_load3 (.tmp 98) rfl _ _ (is_tq (hi9 hin 8 98) rfl) (by have h9:=fits_cell (((unhide M).step hk2).at 0 _ rfl) 38 _ rfl;rw [hu] at h9;exact h9) (tE rfl)
   | 10,ho,hsk=>
     cases ho
     exact wp_move (.tmp 0) rfl _ ((ho9 hout 0).trans rfl) (tE rfl)
   | 11,ho,hsk=>
     cases ho
     exact o_nil (.tmp 100) rfl _ (is_tq (hi9 hin 10 100) rfl) (tE rfl)
   | 12,ho,hsk=>
     cases ho
     exact o_fld47_1 (.tmp 101) rfl b (0) (1) rfl (is_tq (hi9 hin 11 101) rfl) (tE rfl)
   | 13,ho,hsk=>
     cases ho
     exact o_load3 (.tmp 102) rfl _ _ (is_tq (hi9 hin 12 102) rfl) (fits_cell (((unhide M).step hk2).at 0 _ rfl) 1 _ rfl) (tE rfl)
   | 14,ho,hsk=>
     cases ho
     exact c_eql3 (.tmp 99) (.tmp 103) rfl _ _ (false) (by rw [decide_eq_false_iff_not];omega) (is_tq (hi9 hin 9 99) rfl) (is_tq (hi9 hin 13 103) rfl) (tE rfl)
   | 15,ho,hsk=>
     cases ho
     exact o_pick (.tmp 95) (.tmp 104) rfl _ (is_tq (hi9 hin 5 95) rfl) (is_tq (hi9 hin 14 104) rfl) (tE rfl)
 intro w9 hk9
 replace hk9:Kept [] w w9:=ud hk9
 simp only [valsQ,List.map_cons,List.map_nil,Option.getD_some,List.take_succ_cons,List.take_zero,putAll,Act.put,List.setIfInBounds_toArray,List.set_cons_succ,List.set_cons_zero]
 refine wpAny_done (by kernel_rfl) ?_ _
 replace M:=hide ((unhide M).step hk9)
 clear hk9
 go_wp2_with (first |(refine wpBuildZ (T:=78) (b8 no8) build45 rfl rfl ?_;refine Stp.go ?_))
 constructor
 go_wp2_with (first |(refine wpStN row45 rfl (.tmp 117) (.tmp 115) rfl rfl b (2) 0 (b8 no8) rfl rfl rfl (b8_one _) (unhide M) rfl (Nat.le_of_ble_eq_true rfl) (fun W h=>h.rshP no8) ?_;intro W21 N21;replace M:Hid (Mm [b] w W21 [(b,80,({ r with sh:=no8 } :Rk).C ln)]):=hide N21;clear N21;refine Stp.go ?_))
 constructor
 go_wp2_with (first |(refine wpBuildZ (T:=34) (i8 ze8) build37 rfl rfl ?_;refine Stp.go ?_))
 constructor
 go_wp2_with (first |(refine wpStN row37 rfl (.tmp 121) (.tmp 119) rfl rfl b (18) 0 (i8 ze8) rfl rfl rfl (i8_one _) (unhide M) rfl (Nat.le_of_ble_eq_true rfl) (fun W h=>h.ropsP ze8) ?_;intro W22 N22;replace M:Hid (Mm [b] w W22 [(b,80,({ r with sh:=no8,ops:=ze8 } :Rk).C ln)]):=hide N22;clear N22;refine Stp.go ?_))
 constructor
 go_wp2_with (first |(refine wpSt1 size2 rfl (.tmp 127) (.tmp 124) rfl rfl b (18+r.hn) 0 (.int .i64 r.op) (⟨rfl,rfl⟩) rfl rfl (unhide M) rfl (by show 18+r.hn<40;omega) (Rk.ops_set _ ln r.hn hh r.op) ?_;intro W23 N23;replace M:Hid (Mm [b] w W23 [(b,80,({ r with sh:=no8,ops:=upd ze8 r.hn r.op } :Rk).C ln)]):=hide N23;clear N23;refine Stp.go ?_))
 constructor
 go_wp2_with (first |(refine wpSt1 size3 rfl (.tmp 131) (.tmp 129) rfl rfl b (0) 0 (.int .i64 (r.hn:Int)) (⟨rfl,rfl⟩) rfl rfl (unhide M) rfl (show 0+1≤_ from Nat.le_of_ble_eq_true rfl) (rfl) ?_;intro W24 N24;replace M:Hid (Mm [b] w W24 [(b,80,({ r with sh:=no8,ops:=upd ze8 r.hn r.op,x:=r.hn } :Rk).C ln)]):=hide N24;clear N24;refine Stp.go ?_))
 constructor
 go_wp2_with (first |(refine wpSt1 size3 rfl (.tmp 135) (.tmp 133) rfl rfl b (1) 0 (.int .i64 (r.hn:Int)) (⟨rfl,rfl⟩) rfl rfl (unhide M) rfl (show 1+1≤_ from Nat.le_of_ble_eq_true rfl) (rfl) ?_;intro W25 N25;replace M:Hid (Mm [b] w W25 [(b,80,r.alone.C ln)]):=hide N25;clear N25;refine Stp.go ?_))
 constructor
 go_wp2_with (first |(go_at_call 62;refine(rdone62 L r.alone ln b _ ((unhide M).at 0 _ rfl) ((unhide H).row1 (unhide M).kept) (gotOk3 (unhide H).ok) (unhide H).all (by have:=(unhide H).len;omega) (unhide H).op0 (by show r.op+L.length≤1000000;have:=(unhide H).op1;omega)).mono ?_;rintro e W90 ⟨v,ln2,rfl,N9,B9,R9,K9,S9⟩;have HN:=hide (N9.elder (w:=w) (unhide M).kept.size);have HB9:=hide B9;have HR9:=hide R9;have HK9:Hid (Kept (b::spare ln) w W90):=((unhide M).kept.mono (by simp)).trans K9;have HS9:Hid (Grw w ln ln2):=S9.elder (unhide M).kept.size;clear N9 B9 R9 K9 S9;refine Stp.go ?_))
 constructor
 go_wp2_with fail
 go_ret
 exact⟨v,ln2,rfl,unhide HN,unhide HB9,unhide HR9,unhide HK9,unhide HS9⟩
theorem rgot_e3 (r:Rk) (ln:Value) (b:Nat) (L:List Wi) (w:World) (h:Rs w b ln r L) (hw:r.wt=2) (hk:¬r.hk=1) (m:Nat) (hm:m<8) (hu:r.su=(m:Int)) (how:r.ow=(m:Int)):Calls Try.prog 30 #[P0 b,.int .i64 r.hn,.int .i64 r.op] w (RC b ln w (rdone (r.setPa m true).alone L)):=by
 have H:=hide h
 have M:=hide (Mm.one h.blk)
 have hh:=h.ok.hn
 have hhI:(r.hn:Int)<8:=by omega
 have P47:=t47 (n:=r.hn) (by omega)
 have c29:=fits_cell h.blk 29 _ rfl
 have c39:=fits_cell h.blk 39 _ rfl
 have c27:=fits_cell h.blk 27 _ rfl
 have c28:=fits_cell h.blk 28 _ rfl
 rw [hw] at c29
 clear hw
 have hka:decide (r.hk=1)=false:=nef_a hk
 have hkb:(r.hk == 1)=false:=nef_b hk
 have hkc:(r.hk !=1)=true:=nef_c hk
 clear h
 go_enter Try.func30,Try.ntmps30
 go_wp2_with (first |(go_at_call 26;refine(unhide (P47 _)).mono ?_;rintro e W11 ⟨rfl,q11⟩;replace q11:=q11.symm;subst q11;refine Stp.go ?_))
 constructor
 go_wp2_with fail
 clear c27 c28 c29 c39
 refine wp_region_any mixed (wpAny_tq 16 rfl (by kernel_rfl) [some (P0 b),some (P0 b),some (.pointer (some ⟨b,38,none⟩)),some (.int .i64 m),some (.bool true),some (.bool true),some (P0 b),some (P0 b),some (.pointer (some ⟨b,38,none⟩)),some (.int .i64 m),some (P0 b),some (P0 b),some (.pointer (some ⟨b,1,none⟩)),some (.int .i64 m),some (.bool true),some (.bool true)] rfl (by kernel_rfl) (by kernel_rfl) ?_ ?_)
 · intro i o' hi hsk ho a' w2 hout hin hk2
   replace hk2:Kept [] w w2:=ud hk2
   match i,ho,hsk with
   | 0,ho,hsk=>
     cases ho
     exact wp_move (.tmp 0) rfl _ ((ho9 hout 0).trans rfl) (tE rfl)
   | 1,ho,hsk=>
     cases ho
     exact o_nil (.tmp 90) rfl _ (is_tq (hi9 hin 0 90) rfl) (tE rfl)
   | 2,ho,hsk=>
     cases ho
     exact o_fld47_9 (.tmp 91) rfl b (0) (38) rfl (is_tq (hi9 hin 1 91) rfl) (tE rfl)
   | 3,ho,hsk=>
     cases ho
     exact o_load3 (.tmp 92) rfl _ _ (is_tq (hi9 hin 2 92) rfl) (by have h9:=fits_cell (((unhide M).step hk2).at 0 _ rfl) 38 _ rfl;rw [hu] at h9;exact h9) (tE rfl)
   | 4,ho,hsk=>
     cases ho
     exact c_geq3 (.tmp 93) (.const (.int .i64 (0))) rfl _ _ (true) (by simp) (is_tq (hi9 hin 3 93) rfl) rfl (tE rfl)
   | 5,ho,hsk=>
     cases ho
     exact wp_move (.tmp 94) rfl _ (is_tq (hi9 hin 4 94) rfl) (tE rfl)
   | 6,ho,hsk=>
     cases ho
     exact wp_move (.tmp 0) rfl _ ((ho9 hout 0).trans rfl) (tE rfl)
   | 7,ho,hsk=>
     cases ho
     exact o_nil (.tmp 96) rfl _ (is_tq (hi9 hin 6 96) rfl) (tE rfl)
   | 8,ho,hsk=>
     cases ho
     exact o_fld47_9 (.tmp 97) rfl b (0) (38) rfl (is_tq (hi9 hin 7 97) rfl) (tE rfl)
   | 9,ho,hsk=>
     cases ho
     exact o_load3 (.tmp 98) rfl _ _ (is_tq (hi9 hin 8 98) rfl) (by have h9:=fits_cell (((unhide M).step hk2).at 0 _ rfl) 38 _ rfl;rw [hu] at h9;exact h9) (tE rfl)
   | 10,ho,hsk=>
     cases ho
     exact wp_move (.tmp 0) rfl _ ((ho9 hout 0).trans rfl) (tE rfl)
   | 11,ho,hsk=>
     cases ho
     exact o_nil (.tmp 100) rfl _ (is_tq (hi9 hin 10 100) rfl) (tE rfl)
   | 12,ho,hsk=>
     cases ho
     exact o_fld47_1 (.tmp 101) rfl b (0) (1) rfl (is_tq (hi9 hin 11 101) rfl) (tE rfl)
   | 13,ho,hsk=>
     cases ho
     exact o_load3 (.tmp 102) rfl _ _ (is_tq (hi9 hin 12 102) rfl) (by have h9:=fits_cell (((unhide M).step hk2).at 0 _ rfl) 1 _ rfl;rw [how] at h9;exact h9) (tE rfl)
   | 14,ho,hsk=>
     cases ho
     exact c_eql3 (.tmp 99) (.tmp 103) rfl _ _ (true) (by simp) (is_tq (hi9 hin 9 99) rfl) (is_tq (hi9 hin 13 103) rfl) (tE rfl)
   | 15,ho,hsk=>
     cases ho
     exact o_pick (.tmp 95) (.tmp 104) rfl _ (is_tq (hi9 hin 5 95) rfl) (is_tq (hi9 hin 14 104) rfl) (tE rfl)
 intro w9 hk9
 replace hk9:Kept [] w w9:=ud hk9
 simp only [valsQ,List.map_cons,List.map_nil,Option.getD_some,List.take_succ_cons,List.take_zero,putAll,Act.put,List.setIfInBounds_toArray,List.set_cons_succ,List.set_cons_zero]
 refine wpAny_done (by kernel_rfl) ?_ _
 replace M:=hide ((unhide M).step hk9)
 clear hk9
 go_wp2_with fail
 refine wp_region_any mixed (wpAny_gx 9 rfl (by kernel_rfl) [some (P0 b),some (P0 b),some (P0 b),some (.pointer (some ⟨b,38,none⟩)),some (.int .i64 m),some (P0 b),some (.pointer (some ⟨b,10,none⟩)),some (.pointer (some ⟨b,10+m,none⟩)),none] rfl (by kernel_rfl) (fun l vs W=>(SD1 [b] w (fun d=> [(b,80,Rk.C { r with pa:=cond d (upd r.pa m true) r.pa } ln)]) 8) (fun i=>l.getD i false) vs W) ((unhide M).drew) ?_ ?_)
 · intro ix o' hi ho a' w2 l vs hls hlf hJ hout hin hdep hnot
   match ix,ho with
   | 0,ho=>
     cases ho
     have e0:=ho9 hout 0
     replace e0:a'.eval (.tmp 0)=_:=e0.trans rfl
     exact wp_move (.tmp 0) rfl _ e0 ⟨_,rfl,told_of rfl,keepG [8] SD1.loc (by omega) (by decide) hJ⟩
   | 1,ho=>
     cases ho
     have e0:=ho9 hout 0
     replace e0:a'.eval (.tmp 0)=_:=e0.trans rfl
     exact wp_move (.tmp 0) rfl _ e0 ⟨_,rfl,told_of rfl,keepG [8] SD1.loc (by omega) (by decide) hJ⟩
   | 2,ho=>
     cases ho
     exact o_nil (.tmp 107) rfl _ (hx9 (hi9 hin 1 107) rfl) ⟨_,rfl,told_of rfl,keepG [8] SD1.loc (by omega) (by decide) hJ⟩
   | 3,ho=>
     cases ho
     exact o_fld47_9 (.tmp 108) rfl b (0) (38) rfl (hx9 (hi9 hin 2 108) rfl) ⟨_,rfl,told_of rfl,keepG [8] SD1.loc (by omega) (by decide) hJ⟩
   | 4,ho=>
     cases ho
     exact o_load3 (.tmp 109) rfl _ _ (hx9 (hi9 hin 3 109) rfl) (by have h9:=fits_cell (Mm.at hJ 0 _ rfl) 38 _ rfl;rw [hu] at h9;exact h9) ⟨_,rfl,told_of rfl,keepG [8] SD1.loc (by omega) (by decide) hJ⟩
   | 5,ho=>
     cases ho
     exact o_nil (.tmp 106) rfl _ (hx9 (hi9 hin 0 106) rfl) ⟨_,rfl,told_of rfl,keepG [8] SD1.loc (by omega) (by decide) hJ⟩
   | 6,ho=>
     cases ho
     exact o_fld47_3 (.tmp 111) rfl b (0) (10) rfl (hx9 (hi9 hin 5 111) rfl) ⟨_,rfl,told_of rfl,keepG [8] SD1.loc (by omega) (by decide) hJ⟩
   | 7,ho=>
     cases ho
     exact o_idx45 (.tmp 112) (.tmp 110) rfl b (10) m (10+m) (hm) rfl (hx9 (hi9 hin 6 112) rfl) (hx9 (hi9 hin 4 110) rfl) ⟨_,rfl,told_of rfl,keepG [8] SD1.loc (by omega) (by decide) hJ⟩
   | 8,ho=>
     cases ho
     exact o_st1 size4 (.tmp 113) _ rfl rfl b (10+m) 0 (.bool true) ⟨rfl,rfl⟩ (hx9 (hi9 hin 7 113) rfl) rfl (SD1.no hJ hlf) rfl (by show 10+m<40;omega) (Rk.pa_set _ ln m hm true) (fun W hM=>⟨undef,rfl,told_no rfl,nextG (by omega) hM⟩)
 intro l_ vs4 V3 hl hJ htold
 have t0:vs4 0=P0 b:=told_is _ (htold 0 (by decide)) rfl
 have t1:vs4 1=P0 b:=told_is _ (htold 1 (by decide)) rfl
 have t2:vs4 2=P0 b:=told_is _ (htold 2 (by decide)) rfl
 have t3:vs4 3= .pointer (some ⟨b,38,none⟩):=told_is _ (htold 3 (by decide)) rfl
 have t4:vs4 4= .int .i64 m:=told_is _ (htold 4 (by decide)) rfl
 have t5:vs4 5=P0 b:=told_is _ (htold 5 (by decide)) rfl
 have t6:vs4 6= .pointer (some ⟨b,10,none⟩):=told_is _ (htold 6 (by decide)) rfl
 have t7:vs4 7= .pointer (some ⟨b,10+m,none⟩):=told_is _ (htold 7 (by decide)) rfl
 rw [show (List.range 9).map vs4= [vs4 0,vs4 1,vs4 2,vs4 3,vs4 4,vs4 5,vs4 6,vs4 7,vs4 8] from rfl]
 simp only [t0,t1,t2,t3,t4,t5,t6,t7,putAll,Act.put,List.setIfInBounds_toArray,List.set_cons_succ,List.set_cons_zero]
 clear t0 t1 t2 t3 t4 t5 t6 t7 htold
 have hM4:Mm [b] w V3 ([(b,80,(r.setPa m true).C ln)]):=SD1.yes hJ (hl 8 (by decide))
 replace M:Hid (Mm [b] w V3 [(b,80,(r.setPa m true).C ln)]):=hide hM4
 clear hM4 hJ hl
 go_wp2_with (first |(refine wpBuildZ (T:=78) (b8 no8) build45 rfl rfl ?_;refine Stp.go ?_))
 constructor
 go_wp2_with (first |(refine wpStN row45 rfl (.tmp 117) (.tmp 115) rfl rfl b (2) 0 (b8 no8) rfl rfl rfl (b8_one _) (unhide M) rfl (Nat.le_of_ble_eq_true rfl) (fun W h=>h.rshP no8) ?_;intro W21 N21;replace M:Hid (Mm [b] w W21 [(b,80,({ (r.setPa m true) with sh:=no8 } :Rk).C ln)]):=hide N21;clear N21;refine Stp.go ?_))
 constructor
 go_wp2_with (first |(refine wpBuildZ (T:=34) (i8 ze8) build37 rfl rfl ?_;refine Stp.go ?_))
 constructor
 go_wp2_with (first |(refine wpStN row37 rfl (.tmp 121) (.tmp 119) rfl rfl b (18) 0 (i8 ze8) rfl rfl rfl (i8_one _) (unhide M) rfl (Nat.le_of_ble_eq_true rfl) (fun W h=>h.ropsP ze8) ?_;intro W22 N22;replace M:Hid (Mm [b] w W22 [(b,80,({ (r.setPa m true) with sh:=no8,ops:=ze8 } :Rk).C ln)]):=hide N22;clear N22;refine Stp.go ?_))
 constructor
 go_wp2_with (first |(refine wpSt1 size2 rfl (.tmp 127) (.tmp 124) rfl rfl b (18+r.hn) 0 (.int .i64 r.op) (⟨rfl,rfl⟩) rfl rfl (unhide M) rfl (by show 18+r.hn<40;omega) (Rk.ops_set _ ln r.hn hh r.op) ?_;intro W23 N23;replace M:Hid (Mm [b] w W23 [(b,80,({ (r.setPa m true) with sh:=no8,ops:=upd ze8 r.hn r.op } :Rk).C ln)]):=hide N23;clear N23;refine Stp.go ?_))
 constructor
 go_wp2_with (first |(refine wpSt1 size3 rfl (.tmp 131) (.tmp 129) rfl rfl b (0) 0 (.int .i64 (r.hn:Int)) (⟨rfl,rfl⟩) rfl rfl (unhide M) rfl (show 0+1≤_ from Nat.le_of_ble_eq_true rfl) (rfl) ?_;intro W24 N24;replace M:Hid (Mm [b] w W24 [(b,80,({ (r.setPa m true) with sh:=no8,ops:=upd ze8 r.hn r.op,x:=r.hn } :Rk).C ln)]):=hide N24;clear N24;refine Stp.go ?_))
 constructor
 go_wp2_with (first |(refine wpSt1 size3 rfl (.tmp 135) (.tmp 133) rfl rfl b (1) 0 (.int .i64 (r.hn:Int)) (⟨rfl,rfl⟩) rfl rfl (unhide M) rfl (show 1+1≤_ from Nat.le_of_ble_eq_true rfl) (rfl) ?_;intro W25 N25;replace M:Hid (Mm [b] w W25 [(b,80,(r.setPa m true).alone.C ln)]):=hide N25;clear N25;refine Stp.go ?_))
 constructor
 go_wp2_with (first |(go_at_call 62;refine(rdone62 L (r.setPa m true).alone ln b _ ((unhide M).at 0 _ rfl) ((unhide H).row1 (unhide M).kept) (gotOk4 (unhide H).ok m) (unhide H).all (by have:=(unhide H).len;omega) (unhide H).op0 (by show r.op+L.length≤1000000;have:=(unhide H).op1;omega)).mono ?_;rintro e W90 ⟨v,ln2,rfl,N9,B9,R9,K9,S9⟩;have HN:=hide (N9.elder (w:=w) (unhide M).kept.size);have HB9:=hide B9;have HR9:=hide R9;have HK9:Hid (Kept (b::spare ln) w W90):=((unhide M).kept.mono (by simp)).trans K9;have HS9:Hid (Grw w ln ln2):=S9.elder (unhide M).kept.size;clear N9 B9 R9 K9 S9;refine Stp.go ?_))
 constructor
 go_wp2_with fail
 go_ret
 exact⟨v,ln2,rfl,unhide HN,unhide HB9,unhide HR9,unhide HK9,unhide HS9⟩
theorem rgot35 (r:Rk) (ln:Value) (b:Nat) (L:List Wi) (m c:Int) (w:World) (h:Rs w b ln r L):Calls Try.prog 30 #[P0 b,.int .i64 m,.int .i64 c] w (RC b ln w (rgotP r L m c)):=by
 unfold rgotP
 have hu:=h.ok.su
 cases hm:isN m with
 | false=>rw [if_neg (by simp)];exact rgot_a r ln b L m c w h hm
 | true=>
   have h1:0≤m∧m<8:=by simpa [isN] using hm
   obtain⟨n,rfl⟩:∃n:Nat,m=n:=⟨m.toNat,by omega⟩
   have hn:n<8:=by omega
   by_cases hw:r.wt=2
   rotate_left
   · rw [if_neg (by simp [hw])];exact rgot_b r ln b L n c w h hn hw
   by_cases hc:c=r.op
   rotate_left
   · rw [if_neg (by simp [hc])];exact rgot_c r ln b L n c w h hn hw hc
   subst hc
   by_cases hq:(n:Int)=(r.hn:Int)
   rotate_left
   · rw [if_neg (by simp [hq])];exact rgot_d r ln b L n w h hn hw hq
   rw [if_pos ⟨rfl,hw,rfl,hq⟩,hq]
   by_cases hk:r.hk=1
   · rw [if_pos hk]
     unfold Rk.gotSh
     by_cases h2:r.su= -1
     · rw [if_neg (by omega)];exact rgot_s1 r ln b L w h hw hk h2
     · have e:r.su=(r.su.toNat:Int):=by omega
       by_cases hx:r.x=r.su
       · rw [if_pos ⟨by omega,.inl hx⟩];exact rgot_s2 r ln b L w h hw hk r.su.toNat (by omega) e (by omega)
       · cases hs:r.sh r.su.toNat with
         | true=>rw [if_pos ⟨by omega,.inr rfl⟩];exact rgot_s3 r ln b L w h hw hk r.su.toNat (by omega) e (by omega) hs
         | false=>rw [if_neg (by simp [hx])];exact rgot_s4 r ln b L w h hw hk r.su.toNat (by omega) e (by omega) hs
   · rw [if_neg hk]
     unfold Rk.gotEx
     by_cases h2:r.su= -1
     · rw [if_neg (by omega)];exact rgot_e1 r ln b L w h hw hk h2
     · have e:r.su=(r.su.toNat:Int):=by omega
       by_cases ho:r.su=r.ow
       · rw [if_pos ⟨by omega,ho⟩];exact rgot_e3 r ln b L w h hw hk r.su.toNat (by omega) e (by omega)
       · rw [if_neg (by simp [ho])];exact rgot_e2 r ln b L w h hw hk r.su.toNat (by omega) e (by omega)
end Go.Proofs.Ytbigongmlpoahaa
