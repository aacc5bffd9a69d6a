import Derived.Test.YtbigongmlpoahaaUFl
namespace Go.Proofs.Ytbigongmlpoahaa
set_option maxHeartbeats 2000000
set_option maxRecDepth 100000
set_option linter.unusedSimpArgs false
open Go.RowKit
structure Sd (w:World) (b:Nat) (ln:Value) (s:Lo) (L:List Wi):Prop where
 blk:Blk w b 108 (s.C ln)
 row:Ws w ln L
 ok:s.Ok
 all:∀x∈L,x.Ok
 op0:0≤s.op
 op1:s.op+L.length≤900000
 len:L.length≤900
theorem Sd.kept {w w':World} {b:Nat} {ln:Value} {s:Lo} {L:List Wi} {X:List Nat} (h:Sd w b ln s L) (hk:Kept X w w') (hb:b∉X) (hl:∀k,ln.ownBlock=some k→k∉X):Sd w' b ln s L:=⟨h.blk.kept hk hb,h.row.kept hk hl,h.ok,h.all,h.op0,h.op1,h.len⟩
theorem Sd.row1 {w w':World} {b:Nat} {ln:Value} {s:Lo} {L:List Wi} (h:Sd w b ln s L) (hk:Kept [b] w w'):Ws w' ln L:=h.row.kept hk (Rw.ne h.row h.blk (by decide))
def askI (s:Lo) (L:List Wi) (m k:Int):Lo×List Wi×List Od:=if isN m then askP s L ⟨m.toNat,k⟩ else (s,L,[])
def wantP (s:Lo) (L:List Wi) (m md:Int):Lo×List Wi×List Od:=if md=1 then askI s L m 1 else if md=2 then askI s L m 2 else (s,L,[])
theorem askI48 (s:Lo) (ln:Value) (b:Nat) (L:List Wi) (m k:Int) (w:World) (h:Sd w b ln s L) (hk:k=1∨k=2∨k=3):Calls Try.prog 75 #[P0 b,aggV [.int .i64 m,.int .i64 k]] w (LC b ln w (askI s L m k)):=by
 unfold askI
 cases hm:isN m with
 | false=>rw [if_neg (by simp)];exact ask_b s ln b L m k w h.blk h.row hm
 | true=>
   rw [if_pos rfl]
   have h1:0≤m∧m<8:=by simpa [isN] using hm
   have e:(Wi.mk m.toNat k).C= [.int .i64 m,.int .i64 k]:=by simp only [Wi.C];rw [show ((m.toNat:Nat):Int)=m by omega]
   rw [← e]
   exact ask48 s ln b L ⟨m.toNat,k⟩ w h.blk h.row h.len ⟨by simp;omega,hk⟩ h.ok h.all ⟨h.op0,h.op1⟩
theorem want_a (s:Lo) (ln:Value) (b:Nat) (L:List Wi) (m md:Int) (w:World) (h:Sd w b ln s L) (hk:md=1):Calls Try.prog 43 #[P0 b,.int .i64 m,.int .i64 md] w (LC b ln w (askI s L m 1)):=by
 have H:=hide h
 clear h
 subst hk
 go_enter Try.func43,Try.ntmps43
 go_wp2_with (first |(refine wpBuildP (by rfl) #[(0,.tmp 11),(1,.const (.int .i64 1))] (by rfl) #[(0,.int .i64 m),(1,.int .i64 1)] (by kernel_rfl) [.int .i64 m,.int .i64 1] (bw _ m 1) ?_;refine Stp.go ?_))
 constructor
 go_wp2_with (first |(go_at_call 75;refine(askI48 s ln b L m 1 _ (unhide H) (by decide)).mono ?_;rintro e W9 ⟨v,ln2,rfl,N9,B9,R9,K9,S9⟩;have HN:=hide N9;have HB9:=hide B9;have HR:=hide R9;have HK9:=hide K9;have HS9:=hide S9;clear N9 B9 R9 K9 S9;refine Stp.go ?_))
 constructor
 go_wp2_with fail
 go_ret
 exact⟨v,ln2,rfl,unhide HN,unhide HB9,unhide HR,unhide HK9,unhide HS9⟩
theorem want_b (s:Lo) (ln:Value) (b:Nat) (L:List Wi) (m md:Int) (w:World) (h:Sd w b ln s L) (hk:md=2):Calls Try.prog 43 #[P0 b,.int .i64 m,.int .i64 md] w (LC b ln w (askI s L m 2)):=by
 have H:=hide h
 clear h
 subst hk
 go_enter Try.func43,Try.ntmps43
 go_wp2_with (first |(refine wpBuildP (by rfl) #[(0,.tmp 17),(1,.const (.int .i64 2))] (by rfl) #[(0,.int .i64 m),(1,.int .i64 2)] (by kernel_rfl) [.int .i64 m,.int .i64 2] (bw _ m 2) ?_;refine Stp.go ?_))
 constructor
 go_wp2_with (first |(go_at_call 75;refine(askI48 s ln b L m 2 _ (unhide H) (by decide)).mono ?_;rintro e W9 ⟨v,ln2,rfl,N9,B9,R9,K9,S9⟩;have HN:=hide N9;have HB9:=hide B9;have HR:=hide R9;have HK9:=hide K9;have HS9:=hide S9;clear N9 B9 R9 K9 S9;refine Stp.go ?_))
 constructor
 go_wp2_with fail
 go_ret
 exact⟨v,ln2,rfl,unhide HN,unhide HB9,unhide HR,unhide HK9,unhide HS9⟩
theorem want_c (s:Lo) (ln:Value) (b:Nat) (L:List Wi) (m md:Int) (w:World) (h:Sd w b ln s L) (h1:¬md=1) (h2:¬md=2):Calls Try.prog 43 #[P0 b,.int .i64 m,.int .i64 md] w (LC b ln w ((s,L,[]))):=by
 have H:=hide h
 clear h
 have h1a:decide (md=1)=false:=nef_a h1
 have h1b:(md == 1)=false:=nef_b h1
 have h1c:(md !=1)=true:=nef_c h1
 have h2a:decide (md=2)=false:=nef_a h2
 have h2b:(md == 2)=false:=nef_b h2
 have h2c:(md !=2)=true:=nef_c h2
 go_enter Try.func43,Try.ntmps43
 go_wp2_with fail
 go_ret
 exact LC.none (unhide H).blk (unhide H).row (Kept.refl _ _)
theorem want20 (s:Lo) (ln:Value) (b:Nat) (L:List Wi) (m md:Int) (w:World) (h:Sd w b ln s L):Calls Try.prog 43 #[P0 b,.int .i64 m,.int .i64 md] w (LC b ln w (wantP s L m md)):=by
 unfold wantP
 by_cases h1:md=1
 · rw [if_pos h1];exact want_a s ln b L m md w h h1
 · rw [if_neg h1]
   by_cases h2:md=2
   · rw [if_pos h2];exact want_b s ln b L m md w h h2
   · rw [if_neg h2];exact want_c s ln b L m md w h h1 h2
theorem clean21 (s:Lo) (ln:Value) (b:Nat) (L:List Wi) (m:Int) (w:World) (h:Sd w b ln s L):Calls Try.prog 45 #[P0 b,.int .i64 m] w (LC b ln w (askI s L m 3)):=by
 have H:=hide h
 clear h
 go_enter Try.func45,Try.ntmps45
 go_wp2_with (first |(refine wpBuildP (by rfl) #[(0,.tmp 6),(1,.const (.int .i64 3))] (by rfl) #[(0,.int .i64 m),(1,.int .i64 3)] (by kernel_rfl) [.int .i64 m,.int .i64 3] (bw _ m 3) ?_;refine Stp.go ?_))
 constructor
 go_wp2_with (first |(go_at_call 75;refine(askI48 s ln b L m 3 _ (unhide H) (by decide)).mono ?_;rintro e W9 ⟨v,ln2,rfl,N9,B9,R9,K9,S9⟩;have HN:=hide N9;have HB9:=hide B9;have HR:=hide R9;have HK9:=hide K9;have HS9:=hide S9;clear N9 B9 R9 K9 S9;refine Stp.go ?_))
 constructor
 go_wp2_with fail
 go_ret
 exact⟨v,ln2,rfl,unhide HN,unhide HB9,unhide HR,unhide HK9,unhide HS9⟩
def goneP (s:Lo) (L:List Wi) (m c:Int):Lo×List Wi×List Od:=if isN m=true∧s.wa m.toNat=true∧c=s.op then (((s.give m.toNat).isGone m.toNat).1,L,((s.give m.toNat).isGone m.toNat).2) else (s,L,[])
theorem gone_a (s:Lo) (ln:Value) (b:Nat) (L:List Wi) (m c:Int) (w:World) (h:Sd w b ln s L) (hm:isN m=false):Calls Try.prog 47 #[P0 b,.int .i64 m,.int .i64 c] w (LC b ln w (s,L,[])):=by
 have H:=hide h
 have P46:∀W,Hid (Calls Try.prog 76 #[.int .i64 m] W fun e w'=>e= .returned (.bool false)∧w'=W):=fun W=>hide (by have h9:=isNode46 m W;rw [show isN m=false by exact hm] at h9;exact h9)
 clear h hm
 go_enter Try.func47,Try.ntmps47
 go_wp2_with (first |(go_at_call 68;refine(none40 s ln b _ ((unhide H).blk)).mono ?_;rintro e W11 ⟨rfl,q11⟩;replace q11:=q11.symm;subst q11;refine Stp.go ?_))
 constructor
 go_wp2_with (first |(go_at_call 76;refine(unhide (P46 _)).mono ?_;rintro e W12 ⟨rfl,q12⟩;replace q12:=q12.symm;subst q12;refine Stp.go ?_))
 constructor
 go_wp2_with fail
 go_ret
 exact LC.none (unhide H).blk (unhide H).row (Kept.refl _ _)
theorem gone_b (s:Lo) (ln:Value) (b:Nat) (L:List Wi) (n:Nat) (c:Int) (w:World) (h:Sd w b ln s L) (hn:n<8) (hw:s.wa n=false):Calls Try.prog 47 #[P0 b,.int .i64 n,.int .i64 c] w (LC b ln w (s,L,[])):=by
 have H:=hide h
 have hnI:(n:Int)<8:=by omega
 have P46:=t46 (n:=n) (by omega)
 have cw:=h.blk.wa hn
 rw [hw] at cw
 have c30:=fits_cell h.blk 30 _ rfl
 clear h hw
 go_enter Try.func47,Try.ntmps47
 go_wp2_with (first |(go_at_call 68;refine(none40 s ln b _ ((unhide H).blk)).mono ?_;rintro e W11 ⟨rfl,q11⟩;replace q11:=q11.symm;subst q11;refine Stp.go ?_))
 constructor
 go_wp2_with (first |(go_at_call 76;refine(unhide (P46 _)).mono ?_;rintro e W12 ⟨rfl,q12⟩;replace q12:=q12.symm;subst q12;refine Stp.go ?_))
 constructor
 go_wp2_with fail
 go_ret
 exact LC.none (unhide H).blk (unhide H).row (Kept.refl _ _)
theorem gone_c (s:Lo) (ln:Value) (b:Nat) (L:List Wi) (n:Nat) (c:Int) (w:World) (h:Sd w b ln s L) (hn:n<8) (hw:s.wa n=true) (hc:¬c=s.op):Calls Try.prog 47 #[P0 b,.int .i64 n,.int .i64 c] w (LC b ln w (s,L,[])):=by
 have H:=hide h
 have hnI:(n:Int)<8:=by omega
 have P46:=t46 (n:=n) (by omega)
 have cw:=h.blk.wa hn
 rw [hw] at cw
 have c30:=fits_cell h.blk 30 _ rfl
 have hca:decide (c=s.op)=false:=nef_a hc
 have hcb:(c == s.op)=false:=nef_b hc
 have hcc:(c !=s.op)=true:=nef_c hc
 clear h hw
 go_enter Try.func47,Try.ntmps47
 go_wp2_with (first |(go_at_call 68;refine(none40 s ln b _ ((unhide H).blk)).mono ?_;rintro e W11 ⟨rfl,q11⟩;replace q11:=q11.symm;subst q11;refine Stp.go ?_))
 constructor
 go_wp2_with (first |(go_at_call 76;refine(unhide (P46 _)).mono ?_;rintro e W12 ⟨rfl,q12⟩;replace q12:=q12.symm;subst q12;refine Stp.go ?_))
 constructor
 go_wp2_with fail
 go_ret
 exact LC.none (unhide H).blk (unhide H).row (Kept.refl _ _)
theorem gone_d (s:Lo) (ln:Value) (b:Nat) (L:List Wi) (n:Nat) (w:World) (h:Sd w b ln s L) (hn:n<8) (hw:s.wa n=true):Calls Try.prog 47 #[P0 b,.int .i64 n,.int .i64 s.op] w (LC b ln w (((s.give n).isGone n).1,L,((s.give n).isGone n).2)):=by
 have H:=hide h
 have hnI:(n:Int)<8:=by omega
 have P46:=t46 (n:=n) (by omega)
 have cw:=h.blk.wa hn
 rw [hw] at cw
 have c30:=fits_cell h.blk 30 _ rfl
 clear h hw
 go_enter Try.func47,Try.ntmps47
 go_wp2_with (first |(go_at_call 68;refine(none40 s ln b _ ((unhide H).blk)).mono ?_;rintro e W11 ⟨rfl,q11⟩;replace q11:=q11.symm;subst q11;refine Stp.go ?_))
 constructor
 go_wp2_with (first |(go_at_call 76;refine(unhide (P46 _)).mono ?_;rintro e W12 ⟨rfl,q12⟩;replace q12:=q12.symm;subst q12;refine Stp.go ?_))
 constructor
 go_wp2_with (first |(go_at_call 77;refine(give50 s ln b n _ (unhide H).blk hn).mono ?_;rintro e W2 ⟨rfl,B2,K2⟩;have HB2:=hide B2;have HK2:=hide K2;clear B2 K2 cw c30;refine Stp.go ?_))
 constructor
 go_wp2_with (first |(go_at_call 78;refine(isGone51 (s.give n) ln b n _ (unhide HB2) (give_ok (unhide H).ok n) hn).mono ?_;rintro e W3 ⟨v,rfl,N3,B3,K3⟩;have HN:=hide (N3.elder (w:=w) (unhide HK2).size);have HB3:=hide B3;have HK3:Hid (Kept [b] w W3):=(unhide HK2).trans K3;clear N3 B3 K3;refine Stp.go ?_))
 constructor
 go_wp2_with fail
 go_ret
 exact⟨v,ln,rfl,unhide HN,unhide HB3,(unhide H).row1 (unhide HK3),(unhide HK3).mono (by simp),Grw.refl _ _⟩
theorem gone30 (s:Lo) (ln:Value) (b:Nat) (L:List Wi) (m c:Int) (w:World) (h:Sd w b ln s L):Calls Try.prog 47 #[P0 b,.int .i64 m,.int .i64 c] w (LC b ln w (goneP s L m c)):=by
 unfold goneP
 cases hm:isN m with
 | false=>rw [if_neg (by simp)];exact gone_a s ln b L m c w h hm
 | true=>
   have h1:0≤m∧m<8:=by simpa [isN] using hm
   obtain⟨n,rfl⟩:∃n:Nat,m=n:=⟨m.toNat,by omega⟩
   have hn:n<8:=by omega
   simp only [Int.toNat_natCast]
   cases hw:s.wa n with
   | false=>rw [if_neg (by simp)];exact gone_b s ln b L n c w h hn hw
   | true=>
     by_cases hc:c=s.op
     · rw [if_pos (by simp [hc]),hc];exact gone_d s ln b L n w h hn hw
     · rw [if_neg (by simp [hc])];exact gone_c s ln b L n c w h hn hw hc
def Lo.now (s:Lo):Lo:=if s.hk=1 then s.nowSh s.hn else s.nowEx s.hn
def gotP (s:Lo) (L:List Wi) (m c:Int):Lo×List Wi×List Od:=if s.sends=true∧m=(s.hn:Int)∧c=s.op then nextP s.now.over L else (s,L,[])
theorem nowSh_op (s:Lo) (n:Nat):(s.nowSh n).op=s.op:=by unfold Lo.nowSh;split <;> rfl
theorem nowEx_op (s:Lo) (n:Nat):(s.nowEx n).op=s.op:=by unfold Lo.nowEx;split <;> rfl
theorem got_a (s:Lo) (ln:Value) (b:Nat) (L:List Wi) (m c:Int) (w:World) (h:Sd w b ln s L) (hS:s.sends=false):Calls Try.prog 49 #[P0 b,.int .i64 m,.int .i64 c] w (LC b ln w (s,L,[])):=by
 have H:=hide h
 have P52:Hid (Calls Try.prog 79 #[P0 b] w fun e w'=>e= .returned (.bool false)∧w'=w):=hide (by have h9:=sends52 s ln b w h.blk;rw [hS] at h9;exact h9)
 clear h hS
 go_enter Try.func49,Try.ntmps49
 go_wp2_with (first |(go_at_call 68;refine(none40 s ln b _ ((unhide H).blk)).mono ?_;rintro e W11 ⟨rfl,q11⟩;replace q11:=q11.symm;subst q11;refine Stp.go ?_))
 constructor
 go_wp2_with (first |(go_at_call 79;refine(unhide P52).mono ?_;rintro e W12 ⟨rfl,q12⟩;replace q12:=q12.symm;subst q12;refine Stp.go ?_))
 constructor
 go_wp2_with fail
 go_ret
 exact LC.none (unhide H).blk (unhide H).row (Kept.refl _ _)
theorem got_b (s:Lo) (ln:Value) (b:Nat) (L:List Wi) (m c:Int) (w:World) (h:Sd w b ln s L) (hS:s.sends=true) (hm:¬m=(s.hn:Int)):Calls Try.prog 49 #[P0 b,.int .i64 m,.int .i64 c] w (LC b ln w (s,L,[])):=by
 have H:=hide h
 have P52:Hid (Calls Try.prog 79 #[P0 b] w fun e w'=>e= .returned (.bool true)∧w'=w):=hide (by have h9:=sends52 s ln b w h.blk;rw [hS] at h9;exact h9)
 have c28:=fits_cell h.blk 28 _ rfl
 have c30:=fits_cell h.blk 30 _ rfl
 have hma:decide (m=(s.hn:Int))=false:=nef_a hm
 have hmb:(m == (s.hn:Int))=false:=nef_b hm
 have hmc:(m !=(s.hn:Int))=true:=nef_c hm
 clear h hS
 go_enter Try.func49,Try.ntmps49
 go_wp2_with (first |(go_at_call 68;refine(none40 s ln b _ ((unhide H).blk)).mono ?_;rintro e W11 ⟨rfl,q11⟩;replace q11:=q11.symm;subst q11;refine Stp.go ?_))
 constructor
 go_wp2_with (first |(go_at_call 79;refine(unhide P52).mono ?_;rintro e W12 ⟨rfl,q12⟩;replace q12:=q12.symm;subst q12;refine Stp.go ?_))
 constructor
 go_wp2_with fail
 go_ret
 exact LC.none (unhide H).blk (unhide H).row (Kept.refl _ _)
theorem got_c (s:Lo) (ln:Value) (b:Nat) (L:List Wi) (c:Int) (w:World) (h:Sd w b ln s L) (hS:s.sends=true) (hc:¬c=s.op):Calls Try.prog 49 #[P0 b,.int .i64 s.hn,.int .i64 c] w (LC b ln w (s,L,[])):=by
 have H:=hide h
 have P52:Hid (Calls Try.prog 79 #[P0 b] w fun e w'=>e= .returned (.bool true)∧w'=w):=hide (by have h9:=sends52 s ln b w h.blk;rw [hS] at h9;exact h9)
 have c28:=fits_cell h.blk 28 _ rfl
 have c30:=fits_cell h.blk 30 _ rfl
 have hca:decide (c=s.op)=false:=nef_a hc
 have hcb:(c == s.op)=false:=nef_b hc
 have hcc:(c !=s.op)=true:=nef_c hc
 clear h hS
 go_enter Try.func49,Try.ntmps49
 go_wp2_with (first |(go_at_call 68;refine(none40 s ln b _ ((unhide H).blk)).mono ?_;rintro e W11 ⟨rfl,q11⟩;replace q11:=q11.symm;subst q11;refine Stp.go ?_))
 constructor
 go_wp2_with (first |(go_at_call 79;refine(unhide P52).mono ?_;rintro e W12 ⟨rfl,q12⟩;replace q12:=q12.symm;subst q12;refine Stp.go ?_))
 constructor
 go_wp2_with fail
 go_ret
 exact LC.none (unhide H).blk (unhide H).row (Kept.refl _ _)
theorem got_d (s:Lo) (ln:Value) (b:Nat) (L:List Wi) (w:World) (h:Sd w b ln s L) (hS:s.sends=true) (hk:s.hk=1):Calls Try.prog 49 #[P0 b,.int .i64 s.hn,.int .i64 s.op] w (LC b ln w (nextP (s.nowSh s.hn).over L)):=by
 have H:=hide h
 have P52:Hid (Calls Try.prog 79 #[P0 b] w fun e w'=>e= .returned (.bool true)∧w'=w):=hide (by have h9:=sends52 s ln b w h.blk;rw [hS] at h9;exact h9)
 have c28:=fits_cell h.blk 28 _ rfl
 have c30:=fits_cell h.blk 30 _ rfl
 have c29:=fits_cell h.blk 29 _ rfl
 rw [hk] at c29
 clear hk
 clear h hS
 go_enter Try.func49,Try.ntmps49
 go_wp2_with (first |(go_at_call 68;refine(none40 s ln b _ ((unhide H).blk)).mono ?_;rintro e W11 ⟨rfl,q11⟩;replace q11:=q11.symm;subst q11;refine Stp.go ?_))
 constructor
 go_wp2_with (first |(go_at_call 79;refine(unhide P52).mono ?_;rintro e W12 ⟨rfl,q12⟩;replace q12:=q12.symm;subst q12;refine Stp.go ?_))
 constructor
 go_wp2_with (first |(go_at_call 80;refine(nowSh58 s ln b s.hn _ (unhide H).blk (unhide H).ok.hn (unhide H).ok).mono ?_;rintro e W2 ⟨rfl,B2,K2⟩;have HB2:=hide B2;have HK2:=hide K2;clear B2 K2 c28 c29 c30;refine Stp.go ?_))
 constructor
 go_wp2_with (first |(go_at_call 82;refine(done60 (s.nowSh s.hn) ln b L _ (unhide HB2) (nowSh_ok (unhide H).ok _) ((unhide H).row1 (unhide HK2)) (unhide H).all (by rw [nowSh_op];have:=(unhide H).op0;have:=(unhide H).op1;omega) (by have:=(unhide H).len;omega)).mono ?_;rintro e W9 ⟨v,ln2,rfl,N9,B9,R9,K9,S9⟩;have HN:=hide (N9.elder (w:=w) (unhide HK2).size);have HB9:=hide B9;have HR:=hide R9;have HK9:=hide K9;have HS9:=hide S9;clear N9 B9 R9 K9 S9;refine Stp.go ?_))
 constructor
 go_wp2_with fail
 go_ret
 exact⟨v,ln2,rfl,unhide HN,unhide HB9,unhide HR,((unhide HK2).trans (unhide HK9)).mono (by simp),(unhide HS9).grw⟩
theorem got_e (s:Lo) (ln:Value) (b:Nat) (L:List Wi) (w:World) (h:Sd w b ln s L) (hS:s.sends=true) (hk:¬s.hk=1):Calls Try.prog 49 #[P0 b,.int .i64 s.hn,.int .i64 s.op] w (LC b ln w (nextP (s.nowEx s.hn).over L)):=by
 have H:=hide h
 have P52:Hid (Calls Try.prog 79 #[P0 b] w fun e w'=>e= .returned (.bool true)∧w'=w):=hide (by have h9:=sends52 s ln b w h.blk;rw [hS] at h9;exact h9)
 have c28:=fits_cell h.blk 28 _ rfl
 have c30:=fits_cell h.blk 30 _ rfl
 have c29:=fits_cell h.blk 29 _ rfl
 have hka:decide (s.hk=1)=false:=nef_a hk
 have hkb:(s.hk == 1)=false:=nef_b hk
 have hkc:(s.hk !=1)=true:=nef_c hk
 clear h hS
 go_enter Try.func49,Try.ntmps49
 go_wp2_with (first |(go_at_call 68;refine(none40 s ln b _ ((unhide H).blk)).mono ?_;rintro e W11 ⟨rfl,q11⟩;replace q11:=q11.symm;subst q11;refine Stp.go ?_))
 constructor
 go_wp2_with (first |(go_at_call 79;refine(unhide P52).mono ?_;rintro e W12 ⟨rfl,q12⟩;replace q12:=q12.symm;subst q12;refine Stp.go ?_))
 constructor
 go_wp2_with (first |(go_at_call 81;refine(nowEx59 s ln b s.hn _ (unhide H).blk (unhide H).ok.hn (unhide H).ok).mono ?_;rintro e W2 ⟨rfl,B2,K2⟩;have HB2:=hide B2;have HK2:=hide K2;clear B2 K2 c28 c29 c30;refine Stp.go ?_))
 constructor
 go_wp2_with (first |(go_at_call 82;refine(done60 (s.nowEx s.hn) ln b L _ (unhide HB2) (nowEx_ok (unhide H).ok (unhide H).ok.hn) ((unhide H).row1 (unhide HK2)) (unhide H).all (by rw [nowEx_op];have:=(unhide H).op0;have:=(unhide H).op1;omega) (by have:=(unhide H).len;omega)).mono ?_;rintro e W9 ⟨v,ln2,rfl,N9,B9,R9,K9,S9⟩;have HN:=hide (N9.elder (w:=w) (unhide HK2).size);have HB9:=hide B9;have HR:=hide R9;have HK9:=hide K9;have HS9:=hide S9;clear N9 B9 R9 K9 S9;refine Stp.go ?_))
 constructor
 go_wp2_with fail
 go_ret
 exact⟨v,ln2,rfl,unhide HN,unhide HB9,unhide HR,((unhide HK2).trans (unhide HK9)).mono (by simp),(unhide HS9).grw⟩
theorem got29 (s:Lo) (ln:Value) (b:Nat) (L:List Wi) (m c:Int) (w:World) (h:Sd w b ln s L):Calls Try.prog 49 #[P0 b,.int .i64 m,.int .i64 c] w (LC b ln w (gotP s L m c)):=by
 unfold gotP
 cases hS:s.sends with
 | false=>rw [if_neg (by simp)];exact got_a s ln b L m c w h hS
 | true=>
   by_cases hm:m=(s.hn:Int)
   · subst hm
     by_cases hc:c=s.op
     · subst hc
       rw [if_pos ⟨rfl,rfl,rfl⟩]
       unfold Lo.now
       by_cases hk:s.hk=1
       · rw [if_pos hk];exact got_d s ln b L w h hS hk
       · rw [if_neg hk];exact got_e s ln b L w h hS hk
     · rw [if_neg (by simp [hc])];exact got_c s ln b L c w h hS hc
   · rw [if_neg (by simp [hm])];exact got_b s ln b L m c w h hS hm
end Go.Proofs.Ytbigongmlpoahaa
